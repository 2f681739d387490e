/- What AllocTells wants, part 18. -/
import Derived.Test.YtpckdjnddoaffaaAllocTellsB
import Derived.Test.YtpckdjnddoaffaaAllocTellsE
import Derived.Test.YtpckdjnddoaffaaAllocTellsF
import Derived.Test.YtpckdjnddoaffaaAllocTellsG
import Derived.Test.YtpckdjnddoaffaaAllocTellsH
import Derived.Test.YtpckdjnddoaffaaAllocTellsM
import Derived.Test.YtpckdjnddoaffaaAllocTellsP
import Derived.Test.YtpckdjnddoaffaaAllocTellsQ
/- A disk as layer 9 sees it: the sectors that Read gives; an image with writes over it. -/
namespace Go.Proofs.Ytpckdjnddoaffaa.lk
set_option maxRecDepth 100000
open Go.ChangeShapes Go.WideShapes Go.ChangeAt Go.RowKit
open Go.Proofs.Ytpckdjnddoaffaa.rows
open Go.Proofs.Ytpckdjnddoaffaa.sec
open Go.Proofs.Ytpckdjnddoaffaa.dsk (Wr.ok Wr.c Wr.c_len wf64 St Wr CA seenOf readOf readR writeR asks grow cread uread seen_at seenOf_len seenOf_secs codeAt_kept Keeps.of_below seenOf_more)
open Go.Proofs.Ytpckdjnddoaffaa.ly
set_option linter.unusedVariables false
set_option linter.unusedSimpArgs false

/-- d is a disk whose sectors are ss; nobody's disk has none -/
def Dk (w : World) (d : Value) (ss : List (List Int)) : Prop := (d = .pointer none ∧ ss = []) ∨ ∃ F st, CA w F d st ∧ st.fine ∧ seenOf st = ss
theorem CA.later' {w w' : World} {F : Nat → Prop} {d : Value} {st : St} (h : CA w F d st) (hb : Below w.heap.size w w') : CA w' F d st := by
  obtain ⟨z, g, vs, vw, vn, vl, vf, hd, h⟩ := h
  exact ⟨z, g, vs, vw, vn, vl, vf, hd, codeAt_kept h (Keeps.of_below hb)⟩
theorem Dk.later {w w' : World} {d : Value} {ss : List (List Int)} (h : Dk w d ss) (hb : Below w.heap.size w w') : Dk w' d ss := by
  rcases h with h | ⟨F, st, h1, h2, h3⟩
  · exact Or.inl h
  · exact Or.inr ⟨F, st, CA.later' h1 hb, h2, h3⟩
theorem Dk.secs {w : World} {d : Value} {ss : List (List Int)} (h : Dk w d ss) : Secs ss ∧ ss.length ≤ 65 := by
  rcases h with ⟨_, rfl⟩ | ⟨F, st, h1, h2, rfl⟩
  · exact ⟨fun s hs => (by cases hs), Nat.zero_le _⟩
  · exact ⟨seenOf_secs h2, by rw [seenOf_len]; exact h2.n1⟩
/-- sector i, or 0 -/
def secAt (ss : List (List Int)) (i : Int) : List Int := if 0 ≤ i ∧ i < (ss.length : Int) then ss.getD i.toNat zero32 else zero32
theorem secAt_sec {ss : List (List Int)} (h : Secs ss) (i : Int) : Sec (secAt ss i) := by
  unfold secAt
  split
  · rename_i hi
    have hl : i.toNat < ss.length := by omega
    rw [show ss.getD i.toNat zero32 = ss[i.toNat] by simp [List.getD, hl]]
    exact h _ (List.getElem_mem hl)
  · exact sec_zero
theorem dread (w : World) (d : Value) (ss : List (List Int)) (i : Int) (h : Dk w d ss) (hi : wf64 i) :
    Calls Try.prog 47 #[d, .int .i64 i] w fun e w' => e = .returned (.tuple #[agg (secAt ss i), .int .i64 (if 0 ≤ i ∧ i < (ss.length : Int) then 0 else 1)]) ∧ Below w.heap.size w w' := by
  rcases h with ⟨rfl, rfl⟩ | ⟨F, st, h1, h2, rfl⟩
  · have e : ¬ (0 ≤ i ∧ i < (([] : List (List Int)).length : Int)) := by simp; try omega
    rw [secAt, if_neg e, if_neg e]
    exact uread (Or.inl rfl) i
  · have h3 := cread w F d st i h1 h2 hi
    rw [readR] at h3
    rw [secAt, seenOf_len]
    by_cases hin : 0 ≤ i ∧ i < (st.safe.length : Int)
    · rw [if_pos hin] at h3
      rw [if_pos hin, if_pos hin]
      have hk : i.toNat < st.safe.length := by omega
      have e := seen_at i.toNat st.wait st.safe (fun x hx => (h2.pos x hx).1) hk
      have e2 : (seenOf st).getD i.toNat zero32 = readOf st i.toNat := by
        have hl : i.toNat < (seenOf st).length := by rw [seenOf_len]; exact hk
        have h1 : some ((seenOf st)[i.toNat]) = some (readOf st i.toNat) := (List.getElem?_eq_getElem _).symm.trans e
        rw [List.getD, List.getElem?_eq_getElem hl]
        exact Option.some.inj h1
      rw [e2]
      exact h3
    · rw [if_neg hin] at h3
      rw [if_neg hin, if_neg hin]
      exact h3
/-- a write over an image -/
def wr1 (l : List (List Int)) (x : Wr) : List (List Int) := if 0 ≤ x.pos ∧ x.pos < (l.length : Int) then l.set x.pos.toNat x.s else l
theorem wr1_len (l : List (List Int)) (x : Wr) : (wr1 l x).length = l.length := by unfold wr1; split <;> simp
def over (ss : List (List Int)) (ws : List Wr) (i : Nat) : List (List Int) := (ws.take i).foldl wr1 ss
theorem over_succ {ss : List (List Int)} {ws : List Wr} {i : Nat} (h : i < ws.length) : over ss ws (i + 1) = wr1 (over ss ws i) ws[i] := by
  rw [over, List.take_succ_eq_append_getElem h, List.foldl_append]; rfl
theorem over_len (ss : List (List Int)) (ws : List Wr) : ∀ i, i ≤ ws.length → (over ss ws i).length = ss.length
  | 0, _ => rfl
  | i + 1, h => by rw [over_succ (show i < ws.length by omega), wr1_len, over_len ss ws i (by omega)]
def withL (ss : List (List Int)) (ws : List Wr) : List (List Int) := if 1 ≤ ss.length ∧ ss.length ≤ 65 then over ss ws ws.length else []
/-- what holds at the head of the round over the writes -/
structure WAt (W : World) (ss : List (List Int)) (ws : List Wr) (i : Nat) (d : Value) (w : World) (F : Nat → Prop) (st : St) : Prop where
  code : CA w F d st
  good : st.good i
  bad : st.bad = []
  seen : seenOf st = over ss ws i
  inF : ∀ b, F b → W.heap.size ≤ b ∧ b < w.heap.size
  below : Below W.heap.size W w
theorem WAt.later {W w w' : World} {ss : List (List Int)} {ws : List Wr} {i : Nat} {d : Value} {F : Nat → Prop} {st : St} (h : WAt W ss ws i d w F st) (hb : Below w.heap.size w w') : WAt W ss ws i d w' F st :=
  ⟨CA.later' h.code hb, h.good, h.bad, h.seen, fun b hF => by have := h.inF b hF; have := hb.size; omega, below_trans h.below hb⟩
theorem WAt.done {W w w' : World} {ss : List (List Int)} {ws : List Wr} {i : Nat} {d : Value} {F : Nat → Prop} {st : St} (h : WAt W ss ws i d w F st) (hi : i < ws.length) (hok : ∀ x ∈ ws, x.ok)
    (hc : CA w' (grow F w w') d (writeR st ws[i].pos ws[i].s ws[i].kind ws[i].id).2) (ht : dsk.Touch F w w') : WAt W ss ws (i + 1) d w' (grow F w w') (writeR st ws[i].pos ws[i].s ws[i].kind ws[i].id).2 := by
  have hz := ht.size
  have hbz := h.below.size
  have hsl : (over ss ws i).length = st.safe.length := by rw [← h.seen, seenOf_len]
  have hx := hok _ (List.getElem_mem hi)
  have hF2 : ∀ b, grow F w w' b → W.heap.size ≤ b ∧ b < w'.heap.size := fun b hF => by
    rcases hF with hF | hF
    · have := h.inF b hF; omega
    · omega
  have hb2 := h.below.trans (ht.below hbz fun i hi => (h.inF i hi).1)
  have hna : asks st = false := by unfold asks; rw [h.bad]; simp
  have hg := h.good
  have hov := over_succ (ss := ss) hi
  generalize ws[i] = x at *
  unfold writeR at hc ⊢
  by_cases hin : 0 ≤ x.pos ∧ x.pos < (st.safe.length : Int)
  · rw [if_pos hin, if_neg (by rw [hna]; decide)] at hc ⊢
    refine ⟨hc, ⟨hg.ss, hg.n1, fun y hy => ?_, fun e he => ?_, ?_, ?_, hg.bn, ⟨hg.ep.1, ?_⟩, ⟨?_, ?_⟩⟩, h.bad, ?_, hF2, hb2⟩
    · rcases List.mem_append.1 hy with hy | hy
      · exact hg.ws y hy
      · rw [List.mem_singleton.1 hy]; exact ⟨hx.1, hin⟩
    · rcases List.mem_append.1 he with he | he
      · exact hg.es e he
      · rw [List.mem_singleton.1 he]; exact ⟨hx.1, Nat.zero_le _⟩
    · have := hg.wn; simp; omega
    · have := hg.ln; simp; omega
    · have := hg.ep.2; show st.ep ≤ ((i + 1 : Nat) : Int); omega
    · have := hg.asked.1; show 0 ≤ st.asked + 1; omega
    · have := hg.asked.2; show st.asked + 1 ≤ ((i + 1 : Nat) : Int); omega
    · have e : seenOf { st with asked := st.asked + 1, wait := st.wait ++ [⟨x.pos, x.s, x.kind, x.id, st.ep⟩], log := st.log ++ [(1, ⟨x.pos, x.s, x.kind, x.id, st.ep⟩, [])] } = (seenOf st).set x.pos.toNat x.s := seenOf_more st ⟨x.pos, x.s, x.kind, x.id, st.ep⟩
      exact e.trans (by rw [h.seen, hov, wr1, hsl, if_pos hin])
  · rw [if_neg hin] at hc ⊢
    refine ⟨hc, ⟨hg.ss, hg.n1, hg.ws, hg.es, ?_, ?_, hg.bn, ⟨hg.ep.1, ?_⟩, ⟨?_, ?_⟩⟩, h.bad, ?_, hF2, hb2⟩
    · have := hg.wn; show st.wait.length ≤ i + 1; omega
    · have := hg.ln; show st.log.length ≤ i + 1; omega
    · have := hg.ep.2; show st.ep ≤ ((i + 1 : Nat) : Int); omega
    · have := hg.asked.1; show 0 ≤ st.asked + 1; omega
    · have := hg.asked.2; show st.asked + 1 ≤ ((i + 1 : Nat) : Int); omega
    · exact h.seen.trans (by rw [hov, wr1, hsl, if_neg hin])
theorem WAt.dk {W w : World} {ss : List (List Int)} {ws : List Wr} {i : Nat} {d : Value} {F : Nat → Prop} {st : St} (h : WAt W ss ws i d w F st) (hi : i ≤ 900) : Dk w d (over ss ws i) := Or.inr ⟨F, st, h.code, h.good.fine hi, h.seen⟩
theorem WAt.start {W w : World} {ss : List (List Int)} {ws : List Wr} {d : Value} (hs : Secs ss) (hl : ss.length ≤ 65) (hb : Below W.heap.size W w) (hc : CA w (fun b => W.heap.size ≤ b ∧ b < w.heap.size) d (dsk.st0 ss)) : WAt W ss ws 0 d w (fun b => W.heap.size ≤ b ∧ b < w.heap.size) (dsk.st0 ss) :=
  ⟨hc, ⟨hs, hl, fun x hx => (by cases hx), fun x hx => (by cases hx), Nat.le_refl _, Nat.le_refl _, Nat.zero_le _, ⟨Int.le_refl _, Int.le_refl _⟩, ⟨Int.le_refl _, Int.le_refl _⟩⟩, rfl, rfl, fun b hb => hb, hb⟩
theorem wrs_of_trod {H : Type} {enc : TypeId × Value → H} {W : World} {p : Option Addr} {len cap : Nat} {d : DataW H} {ps : List MemPlace}
    (h : DataW.Trod enc Try.prog W 0 (fun _ => true) true 23 (.slice p len cap) d ps) : ∃ ws : List Wr, (∀ x ∈ ws, x.ok) ∧ Rd W 36 (.slice p len cap) len (dsk.wrsC ws) ∧ len ≤ maxLen := by
  obtain ⟨fuel, hf⟩ := h
  obtain ⟨p', len', cap', l, hcs, hg, hll, hr, hm⟩ := open_slice Wr.c (by decide) dsk.und_wrs dsk.cellsWr Wr.ok (fun x hx => Wr.c_len hx.1) (fun _ _ _ h => dsk.wr_of_cells h) hf
  simp [Value.cells] at hcs
  obtain ⟨rfl, rfl, rfl⟩ := hcs
  exact ⟨l, hg, hr, hm⟩
end Go.Proofs.Ytpckdjnddoaffaa.lk
/- What the law's Disk gives: of an image, with writes that wait. -/
namespace Go.Proofs.Ytpckdjnddoaffaa.lk
set_option maxRecDepth 100000
open Go.ChangeShapes Go.WideShapes Go.ChangeAt Go.RowKit
open Go.Proofs.Ytpckdjnddoaffaa.rows
open Go.Proofs.Ytpckdjnddoaffaa.sec
open Go.Proofs.Ytpckdjnddoaffaa.dsk (Wr.ok Wr.c Wr.c_len wf64 St Wr CA seenOf readOf readR writeR asks grow wr_parts ld_cell ld_tag wrsC)
open Go.Proofs.Ytpckdjnddoaffaa.ly
set_option linter.unusedVariables false
set_option linter.unusedSimpArgs false

/-- what holds at the head of the round over the writes, of a disk or of none -/
def WD (W : World) (ss : List (List Int)) (ws : List Wr) (i : Nat) (d : Value) (w : World) (F : Nat → Prop) : Prop :=
  (d = .pointer none ∧ ¬ (1 ≤ ss.length ∧ ss.length ≤ 65) ∧ (∀ b, ¬ F b) ∧ Below W.heap.size W w) ∨ ((1 ≤ ss.length ∧ ss.length ≤ 65) ∧ ∃ st, WAt W ss ws i d w F st)
theorem WD.later {W w w' : World} {ss : List (List Int)} {ws : List Wr} {i : Nat} {d : Value} {F : Nat → Prop} (h : WD W ss ws i d w F) (hb : Below w.heap.size w w') : WD W ss ws i d w' F := by
  rcases h with ⟨h1, h2, h3, h4⟩ | ⟨h1, st, h2⟩
  · exact Or.inl ⟨h1, h2, h3, below_trans h4 hb⟩
  · exact Or.inr ⟨h1, st, h2.later hb⟩
theorem WD.below {W w : World} {ss : List (List Int)} {ws : List Wr} {i : Nat} {d : Value} {F : Nat → Prop} (h : WD W ss ws i d w F) : Below W.heap.size W w := by
  rcases h with ⟨_, _, _, h⟩ | ⟨_, st, h⟩
  · exact h
  · exact h.below
theorem WD.inF {W w : World} {ss : List (List Int)} {ws : List Wr} {i : Nat} {d : Value} {F : Nat → Prop} (h : WD W ss ws i d w F) (b : Nat) (hF : F b) : W.heap.size ≤ b := by
  rcases h with ⟨_, _, h, _⟩ | ⟨_, st, h⟩
  · exact absurd hF (h b)
  · exact (h.inF b hF).1
theorem WD.dk {W w : World} {ss : List (List Int)} {ws : List Wr} {d : Value} {F : Nat → Prop} (h : WD W ss ws ws.length d w F) (hl : ws.length ≤ 900) : Dk w d (withL ss ws) := by
  rcases h with ⟨rfl, h2, _, _⟩ | ⟨h1, st, h⟩
  · rw [withL, if_neg h2]; exact Or.inl ⟨rfl, rfl⟩
  · rw [withL, if_pos h1]; exact h.dk hl
theorem dwrite {W w : World} {ss : List (List Int)} {ws : List Wr} {i : Nat} {d : Value} {F : Nat → Prop} (h : WD W ss ws i d w F) (hi : i < ws.length) (hl : i ≤ 900) (hok : ∀ x ∈ ws, x.ok) :
    Calls Try.prog 22 #[d, .int .i64 ws[i].pos, agg ws[i].s, .agg #[.int .i64 ws[i].kind, .int .i64 ws[i].id]] w fun e w' => ∃ r F', e = .returned (.int .i64 r) ∧ WD W ss ws (i + 1) d w' F' ∧ dsk.Touch F w w' := by
  obtain ⟨o1, o2, o3, o4, o5⟩ := hok _ (List.getElem_mem hi)
  rcases h with ⟨rfl, h2, h3, h4⟩ | ⟨h1, st, h⟩
  · refine (dsk.uwrite (Or.inl rfl) _ _ _ _).mono ?_
    rintro e w' ⟨rfl, hb⟩
    exact ⟨_, F, rfl, Or.inl ⟨rfl, h2, h3, below_trans h4 hb⟩, dsk.Touch.of_below hb⟩
  · refine (dsk.cwrite w F d st ws[i].pos ws[i].s ws[i].kind ws[i].id h.code (h.good.fine hl) o2 o1 o3 o4).mono ?_
    rintro e w' ⟨rfl, hc, ht⟩
    exact ⟨_, _, rfl, Or.inr ⟨h1, _, h.done hi hok hc ht⟩, ht⟩
theorem dfrom (w : World) (p : Option Addr) (n c : Nat) (ss : List (List Int)) (ws : List Wr) (hs : Secs ss) (h : Rd w 32 (.slice p n c) n (cellsOf ss)) (hn : n ≤ 200) :
    Calls Try.prog 21 #[.slice p n c] w fun e w' => ∃ d r F, e = .returned (.tuple #[d, .int .i64 r]) ∧ WD w ss ws 0 d w' F := by
  have hl : ss.length = n := by have h := h.cells; rw [cellsOf_len hs] at h; omega
  by_cases h1 : 1 ≤ n ∧ n ≤ 65
  · refine (dsk.cfrom_yes w p n c ss hs h h1.1 h1.2).mono ?_
    rintro e w' ⟨ad, rfl, hc, hb⟩
    exact ⟨_, _, _, rfl, Or.inr ⟨by rw [hl]; exact h1, _, WAt.start hs (by omega) hb hc⟩⟩
  · refine (dsk.cfrom_no w p n c hn (by omega)).mono ?_
    rintro e w' ⟨rfl, hb⟩
    exact ⟨_, _, fun _ => False, rfl, Or.inl ⟨rfl, by rw [hl]; exact h1, fun _ h => h, hb⟩⟩
theorem wr_tagR {w : World} {b o : Nat} {x : Wr} (hs : Sec x.s) (h : w.rangeAt b o x.c) : w.rangeAt b (o + 33) [.int .i64 x.kind, .int .i64 x.id] := fun j u hj => by
  obtain ⟨_, _, c1, c2, _⟩ := wr_parts hs h
  match j, hj with
  | 0, hj => simp at hj; subst hj; simpa using c1
  | 1, hj => simp at hj; subst hj; simpa using c2
set_option maxRecDepth 100000 in
set_option maxHeartbeats 1600000 in
theorem disk_any (p : Option Addr) (n c : Nat) (ss : List (List Int)) (p2 : Option Addr) (m c2 : Nat) (ws : List Wr) (w : World) (h1 : Rd w 32 (.slice p n c) n (cellsOf ss)) (hs : Secs ss) (hn : n ≤ 200)
    (h2 : Rd w 36 (.slice p2 m c2) m (wrsC ws)) (hok : ∀ x ∈ ws, x.ok) (hm : m ≤ 40) :
    Calls Try.prog 6 #[.slice p n c, .slice p2 m c2] w fun e w' => ∃ d, e = .returned d ∧ Dk w' d (withL ss ws) ∧ Below w.heap.size w w' := by
  have H1 := Lib.hid (dfrom w p n c ss ws hs h1 hn)
  have H2 := Lib.hid h2
  have HOK := Lib.hid hok
  have HLL := Lib.hid (dsk.Rd.count Wr.c h2 (fun x hx => Wr.c_len (hok x hx).1) (by decide))
  have hmi : (m : Int) ≤ 40 := by omega
  clear h1 hs h2 hok
  go_enter Try.func6, Try.ntmps6
  go_wp2_with (go_at_call 21; refine H1.out.mono ?_; rintro e w1 ⟨d, r, F0, rfl, hwd⟩; have HWD0 := Lib.hid hwd; clear hwd)
  go_loopw [7] (fun iv wr => ∃ (i : Nat) (F : Nat → Prop), i ≤ m ∧ iv = .int .i64 (i : Int) ∧ Hid (WD w ss ws i d wr F)) (fun iv _ => m - (intOf iv).toNat)
  case atStart => exact ⟨0, _, by omega, rfl, HWD0⟩
  case round =>
    clear HWD0
    obtain ⟨i, F, hi, rfl, HKA⟩ := hrel
    by_cases him : i < m
    · have him1 : (i:Int) < m := by omega
      have hil : i < ws.length := by rw [HLL.out]; exact him
      obtain ⟨b2, o2, rfl, hcc2, hcm2, hb2, _, HR2⟩ := dsk.Rd.chunk Wr.c H2.out (fun x hx => Wr.c_len (HOK.out x hx).1) (by decide) him
      have hmem := List.getElem_mem hil
      have HAO := Lib.hid (HOK.out _ hmem).1
      have HWR := Lib.hid (Rd.rangeLater (HR2 i hil) hb2 HKA.out.below)
      have HDW := Lib.hid fun w' (hw : WD w ss ws i d w' F) => dwrite hw hil (by omega) HOK.out
      generalize ws[i] = x at *
      clear HR2 hmem
      have hw4 := HKA.out.below.size
      have hbw : b2 < wr.heap.size := by omega
      go_wp2_with fail
      have HKD := Lib.hid (HKA.out.later ((Below.refl wr.heap.size wr).drew))
      have hnF : ¬ F b2 := fun hF => by have := HKA.out.inF _ hF; omega
      have hbd : b2 < wr.drew.heap.size := hbw
      have HWD : Hid (wr.drew.rangeAt b2 (o2 + i * 36) x.c) := Lib.hid (Rd.rangeLater HWR.out hbw ((Below.refl wr.heap.size wr).drew))
      refine wp_region_held_drew (S := dsk.Touch F wr.drew) (by kernel_rfl) (dsk.Touch.refl _ _) (fun hH0 => ?_)
      refine wpAnyH_take (i := 0) (oi := { dst := some 19, op := Op.move (Operand.tmp 5), type := 25, pos := "law.go:21", after := #[], guard := none }) (v := ?_) rfl (by kernel_rfl) (by kernel_rfl) (by kernel_rfl) (fun _ _ _ h => h) (Or.inl ⟨by rfl, ?_⟩) (by assumption) ?_
      rotate_left
      · (intro w' hSw; go_simp; try with_reducible rfl)
      try simp only [Act.put, List.setIfInBounds_toArray, List.set_cons_zero, List.set_cons_succ]
      refine wpAnyH_take (i := 1) (oi := { dst := some 20, op := Op.move (Operand.tmp 1), type := 23, pos := "law.go:21", after := #[], guard := none }) (v := ?_) rfl (by kernel_rfl) (by kernel_rfl) (by kernel_rfl) (fun _ _ _ h => h) (Or.inl ⟨by rfl, ?_⟩) (by assumption) ?_
      rotate_left
      · (intro w' hSw; go_simp; try with_reducible rfl)
      try simp only [Act.put, List.setIfInBounds_toArray, List.set_cons_zero, List.set_cons_succ]
      refine wpAnyH_take (i := 2) (oi := { dst := some 21, op := Op.move (Operand.tmp 7), type := 3, pos := "law.go:21", after := #[], guard := none }) (v := ?_) rfl (by kernel_rfl) (by kernel_rfl) (by kernel_rfl) (fun _ _ _ h => h) (Or.inl ⟨by rfl, ?_⟩) (by assumption) ?_
      rotate_left
      · (intro w' hSw; go_simp; try with_reducible rfl)
      try simp only [Act.put, List.setIfInBounds_toArray, List.set_cons_zero, List.set_cons_succ]
      refine wpAnyH_take (i := 3) (oi := { dst := some 22, op := Op.indexAddr 23 (Operand.tmp 20) (Operand.tmp 21), type := 0, pos := "law.go:21", after := #[{ on := 1, ground := Ground.data }, { on := 2, ground := Ground.data }], guard := none }) (v := ?_) rfl (by kernel_rfl) (by kernel_rfl) (by kernel_rfl) (fun _ _ _ h => h) (Or.inl ⟨by rfl, ?_⟩) (by assumption) ?_
      rotate_left
      · (intro w' hSw; go_simp; try with_reducible rfl)
      try simp only [Act.put, List.setIfInBounds_toArray, List.set_cons_zero, List.set_cons_succ]
      refine wpAnyH_take (i := 4) (oi := { dst := some 23, op := Op.fieldAddr 55 (Operand.tmp 22) 0, type := 0, pos := "law.go:21", after := #[{ on := 3, ground := Ground.data }], guard := none }) (v := ?_) rfl (by kernel_rfl) (by kernel_rfl) (by kernel_rfl) (fun _ _ _ h => h) (Or.inl ⟨by rfl, ?_⟩) (by assumption) ?_
      rotate_left
      · (intro w' hSw; go_simp; try with_reducible rfl)
      try simp only [Act.put, List.setIfInBounds_toArray, List.set_cons_zero, List.set_cons_succ]
      refine' wpAnyH_take (i := 5) (oi := { dst := some 24, op := Op.load 3 (Operand.tmp 23), type := 3, pos := "law.go:21", after := #[{ on := 4, ground := Ground.data }], guard := none }) (v := _) rfl (by kernel_rfl) (by kernel_rfl) (by kernel_rfl) (fun _ _ _ h => h) (ld_cell (by rfl) 3 _ Try.underlying3 rfl _ rfl b2 (o2 + i * 36) rfl (.int .i64 x.pos) (fun w' hw => (wr_parts HAO.out (dsk.Touch.range hw hbd hnF HWD.out)).1)) (by assumption) ?_
      try simp only [Act.put, List.setIfInBounds_toArray, List.set_cons_zero, List.set_cons_succ]
      refine wpAnyH_take (i := 6) (oi := { dst := some 25, op := Op.move (Operand.tmp 1), type := 23, pos := "law.go:21", after := #[], guard := none }) (v := ?_) rfl (by kernel_rfl) (by kernel_rfl) (by kernel_rfl) (fun _ _ _ h => h) (Or.inl ⟨by rfl, ?_⟩) (by assumption) ?_
      rotate_left
      · (intro w' hSw; go_simp; try with_reducible rfl)
      try simp only [Act.put, List.setIfInBounds_toArray, List.set_cons_zero, List.set_cons_succ]
      refine wpAnyH_take (i := 7) (oi := { dst := some 26, op := Op.move (Operand.tmp 7), type := 3, pos := "law.go:21", after := #[], guard := none }) (v := ?_) rfl (by kernel_rfl) (by kernel_rfl) (by kernel_rfl) (fun _ _ _ h => h) (Or.inl ⟨by rfl, ?_⟩) (by assumption) ?_
      rotate_left
      · (intro w' hSw; go_simp; try with_reducible rfl)
      try simp only [Act.put, List.setIfInBounds_toArray, List.set_cons_zero, List.set_cons_succ]
      refine wpAnyH_take (i := 8) (oi := { dst := some 27, op := Op.indexAddr 23 (Operand.tmp 25) (Operand.tmp 26), type := 0, pos := "law.go:21", after := #[{ on := 6, ground := Ground.data }, { on := 7, ground := Ground.data }], guard := none }) (v := ?_) rfl (by kernel_rfl) (by kernel_rfl) (by kernel_rfl) (fun _ _ _ h => h) (Or.inl ⟨by rfl, ?_⟩) (by assumption) ?_
      rotate_left
      · (intro w' hSw; go_simp; try with_reducible rfl)
      try simp only [Act.put, List.setIfInBounds_toArray, List.set_cons_zero, List.set_cons_succ]
      refine wpAnyH_take (i := 9) (oi := { dst := some 28, op := Op.fieldAddr 55 (Operand.tmp 27) 1, type := 0, pos := "law.go:21", after := #[{ on := 8, ground := Ground.data }], guard := none }) (v := ?_) rfl (by kernel_rfl) (by kernel_rfl) (by kernel_rfl) (fun _ _ _ h => h) (Or.inl ⟨by rfl, ?_⟩) (by assumption) ?_
      rotate_left
      · (intro w' hSw; go_simp; try with_reducible rfl)
      try simp only [Act.put, List.setIfInBounds_toArray, List.set_cons_zero, List.set_cons_succ]
      refine' wpAnyH_take (i := 10) (oi := { dst := some 29, op := Op.load 51 (Operand.tmp 28), type := 51, pos := "law.go:21", after := #[{ on := 9, ground := Ground.data }], guard := none }) (v := _) rfl (by kernel_rfl) (by kernel_rfl) (by kernel_rfl) (fun _ _ _ h => h) (ld_sec (by rfl) _ rfl b2 (o2 + i * 36 + 1) rfl x.s HAO.out.1 (fun w' hw => (wr_parts HAO.out (dsk.Touch.range hw hbd hnF HWD.out)).2.1)) (by assumption) ?_
      try simp only [Act.put, List.setIfInBounds_toArray, List.set_cons_zero, List.set_cons_succ]
      refine wpAnyH_take (i := 11) (oi := { dst := some 30, op := Op.move (Operand.tmp 1), type := 23, pos := "law.go:21", after := #[], guard := none }) (v := ?_) rfl (by kernel_rfl) (by kernel_rfl) (by kernel_rfl) (fun _ _ _ h => h) (Or.inl ⟨by rfl, ?_⟩) (by assumption) ?_
      rotate_left
      · (intro w' hSw; go_simp; try with_reducible rfl)
      try simp only [Act.put, List.setIfInBounds_toArray, List.set_cons_zero, List.set_cons_succ]
      refine wpAnyH_take (i := 12) (oi := { dst := some 31, op := Op.move (Operand.tmp 7), type := 3, pos := "law.go:21", after := #[], guard := none }) (v := ?_) rfl (by kernel_rfl) (by kernel_rfl) (by kernel_rfl) (fun _ _ _ h => h) (Or.inl ⟨by rfl, ?_⟩) (by assumption) ?_
      rotate_left
      · (intro w' hSw; go_simp; try with_reducible rfl)
      try simp only [Act.put, List.setIfInBounds_toArray, List.set_cons_zero, List.set_cons_succ]
      refine wpAnyH_take (i := 13) (oi := { dst := some 32, op := Op.indexAddr 23 (Operand.tmp 30) (Operand.tmp 31), type := 0, pos := "law.go:21", after := #[{ on := 11, ground := Ground.data }, { on := 12, ground := Ground.data }], guard := none }) (v := ?_) rfl (by kernel_rfl) (by kernel_rfl) (by kernel_rfl) (fun _ _ _ h => h) (Or.inl ⟨by rfl, ?_⟩) (by assumption) ?_
      rotate_left
      · (intro w' hSw; go_simp; try with_reducible rfl)
      try simp only [Act.put, List.setIfInBounds_toArray, List.set_cons_zero, List.set_cons_succ]
      refine wpAnyH_take (i := 14) (oi := { dst := some 33, op := Op.fieldAddr 55 (Operand.tmp 32) 2, type := 0, pos := "law.go:21", after := #[{ on := 13, ground := Ground.data }], guard := none }) (v := ?_) rfl (by kernel_rfl) (by kernel_rfl) (by kernel_rfl) (fun _ _ _ h => h) (Or.inl ⟨by rfl, ?_⟩) (by assumption) ?_
      rotate_left
      · (intro w' hSw; go_simp; try with_reducible rfl)
      try simp only [Act.put, List.setIfInBounds_toArray, List.set_cons_zero, List.set_cons_succ]
      refine' wpAnyH_take (i := 15) (oi := { dst := some 34, op := Op.load 53 (Operand.tmp 33), type := 53, pos := "law.go:21", after := #[{ on := 14, ground := Ground.data }], guard := none }) (v := _) rfl (by kernel_rfl) (by kernel_rfl) (by kernel_rfl) (fun _ _ _ h => h) (ld_tag (by rfl) _ rfl b2 (o2 + i * 36 + 33) rfl x.kind x.id (fun w' hw => wr_tagR HAO.out (dsk.Touch.range hw hbd hnF HWD.out))) (by assumption) ?_
      try simp only [Act.put, List.setIfInBounds_toArray, List.set_cons_zero, List.set_cons_succ]
      -- 16
      refine wpAnyH_ready (rs := [16]) (by kernel_rfl) (by simp) ?_
      refine AllReadyH.cons (o := { dst := some 35, op := Op.call { callee := Callee.value (Operand.func 22), args := #[Operand.tmp 19, Operand.tmp 24, Operand.tmp 29, Operand.tmp 34], argTypes := #[25, 3, 51, 53] }, type := 46, pos := "law.go:21", after := #[{ on := 0, ground := Ground.data }, { on := 5, ground := Ground.data }, { on := 10, ground := Ground.data }, { on := 15, ground := Ground.data }], guard := none }) rfl (fun K hK => ?_) AllReadyH.nil
      go_simp
      refine (HDW.out _ HKD.out).mono ?_
      rintro e v16 ⟨r16, F16, rfl, hc16, ht16⟩
      have HC16 := Lib.hid hc16
      have HT16 := Lib.hid ht16
      clear hc16 ht16
      dsimp only
      refine hK.out _ _ ?_ (fun hHeld => ?_)
      · exact HT16.out
      clear hK K
      try simp only [Act.put, List.setIfInBounds_toArray, List.set_cons_zero, List.set_cons_succ]
      refine wpAnyH_done (by kernel_rfl) ?_ _
      clear hHeld hH0
      go_wp2_with fail
      exact ⟨⟨i + 1, _, by omega, by go_num, HC16⟩, by simp [intOf]; omega⟩
    · obtain rfl : i = m := by omega
      have hfin := HKA.out
      rw [← HLL.out] at hfin
      have HF1 := Lib.hid (hfin.dk (by rw [HLL.out]; omega))
      have HF2 := Lib.hid hfin.below
      clear hfin HKA
      go_wp2_with fail
      go_ret
      exact ⟨d, rfl, HF1.out, HF2.out⟩
end Go.Proofs.Ytpckdjnddoaffaa.lk
/- What the reference's With gives: an image with writes over it. -/
namespace Go.Proofs.Ytpckdjnddoaffaa.lk
set_option maxRecDepth 100000
open Go.ChangeShapes Go.WideShapes Go.ChangeAt Go.RowKit
open Go.Proofs.Ytpckdjnddoaffaa.rows
open Go.Proofs.Ytpckdjnddoaffaa.sec
open Go.Proofs.Ytpckdjnddoaffaa.dsk (Wr.ok Wr.c Wr.c_len wf64 St Wr CA wr_parts ld_cell wrsC own_some own_blk secs_set step_store_own size_alloc)
open Go.Proofs.Ytpckdjnddoaffaa.ly
set_option linter.unusedVariables false
set_option linter.unusedSimpArgs false

theorem own_made2 {w : World} (b B : Nat) (e : TypeId) (sz : Nat) (hb : b = w.heap.size) (hB : B ≤ b) : Own (w.alloc (.cells #[] e)) B e sz (.slice (some ⟨b, 0, none⟩) 0 0) 0 [] := by
  subst hb; exact own_made w e sz hB
theorem over_secs {ss : List (List Int)} {ws : List Wr} (hs : Secs ss) (hw : ∀ x ∈ ws, x.ok) : ∀ i, i ≤ ws.length → Secs (over ss ws i)
  | 0, _ => hs
  | i + 1, h => by
    rw [over_succ (show i < ws.length by omega), wr1]
    split
    · exact secs_set (over_secs hs hw i (by omega)) (hw _ (List.getElem_mem _)).1 _
    · exact over_secs hs hw i (by omega)
set_option maxRecDepth 100000 in
set_option maxHeartbeats 1600000 in
theorem with_any (p : Option Addr) (n c : Nat) (ss : List (List Int)) (p2 : Option Addr) (m c2 : Nat) (ws : List Wr) (w : World) (h1 : Rd w 32 (.slice p n c) n (cellsOf ss)) (hs : Secs ss) (hn : n ≤ 200)
    (h2 : Rd w 36 (.slice p2 m c2) m (wrsC ws)) (hok : ∀ x ∈ ws, x.ok) (hm : m ≤ 40) :
    Calls Try.prog 7 #[.slice p n c, .slice p2 m c2] w fun e w' => ∃ q k, e = .returned (.slice q (withL ss ws).length k) ∧ Rd w' 32 (.slice q (withL ss ws).length k) (withL ss ws).length (cellsOf (withL ss ws)) ∧ Below w.heap.size w w' := by
  have H1 := Lib.hid h1
  have H2 := Lib.hid h2
  have HS := Lib.hid hs
  have HOK := Lib.hid hok
  have hsl : ss.length = n := by have h := h1.cells; rw [cellsOf_len hs] at h; omega
  have HSL := Lib.hid hsl
  have HLL := Lib.hid (dsk.Rd.count Wr.c h2 (fun x hx => Wr.c_len (hok x hx).1) (by decide))
  have hmi : (m : Int) ≤ 40 := by omega
  have hni : (n : Int) ≤ 200 := by omega
  by_cases hr : 1 ≤ n ∧ n ≤ 65
  · have HWL : Hid (withL ss ws = over ss ws m) := Lib.hid (by rw [withL, if_pos (by rw [hsl]; exact hr), HLL.out])
    have hn1 : (1 : Int) ≤ n := by omega
    have hn65 : (n : Int) ≤ 65 := by omega
    have HSF := Lib.hid (h1.later (below_alloc (Below.refl w.heap.size w) (.cells #[] 51)))
    clear h1 hs h2 hok hsl
    go_enter Try.func7, Try.ntmps7
    go_wp2_with (at_builtin; refine ap_rd elem_secs rfl (.tmp 15) (.tmp 16) rfl w.heap.size _ 0 [] rfl (own_made2 _ _ _ _ rfl (Nat.le_refl _)) _ n _ rfl HSF.out (one_ints .u8 _) (by omega) (by rw [size_alloc]; omega) ?_; intro p4 c4 w4 ho4 hb4; have HO4 := Lib.hid ho4; have hb14 := (below_alloc (Below.refl w.heap.size w) (.cells #[] 51)).trans hb4; clear ho4 hb4)
    have ho4 := HO4.out
    rw [Nat.zero_add, List.nil_append] at ho4
    have HO0 : Hid (Own w4 w.heap.size 51 32 (.slice p4 n c4) n (cellsOf (over ss ws 0))) := Lib.hid ho4
    clear HO4 ho4 HSF
    go_loopw [6] (fun iv wr => ∃ (j : Nat), j ≤ m ∧ iv = .int .i64 (j : Int) ∧ Hid (Own wr w.heap.size 51 32 (.slice p4 n c4) n (cellsOf (over ss ws j))) ∧ Below w.heap.size w wr) (fun iv _ => m - (intOf iv).toNat)
    case atStart => exact ⟨0, by omega, rfl, HO0, hb14⟩
    case round =>
      clear HO0 hb14
      obtain ⟨j, hj, rfl, HO, hbr⟩ := hrel
      by_cases ha : j < m
      · have ha1 : (j:Int) < m := by omega
        have hjl : j < ws.length := by rw [HLL.out]; exact ha
        obtain ⟨b2, o2, rfl, hcc2, hcm2, hb2, _, HR2⟩ := dsk.Rd.chunk Wr.c H2.out (fun x hx => Wr.c_len (HOK.out x hx).1) (by decide) ha
        have hmem := List.getElem_mem hjl
        have HAO := Lib.hid (HOK.out _ hmem).1
        have HWR := Lib.hid (Rd.rangeLater (HR2 j hjl) hb2 hbr)
        have HOV := Lib.hid (over_succ (ss := ss) hjl)
        have HOS := Lib.hid (over_secs HS.out HOK.out j (by omega))
        have HOL : Hid ((over ss ws j).length = n) := Lib.hid (by rw [over_len ss ws j (by omega), HSL.out])
        generalize ws[j] = x at *
        clear HR2 hmem
        have hzr := hbr.size
        have hbw : b2 < wr.heap.size := by omega
        have c0 := (wr_parts HAO.out HWR.out).1
        obtain ⟨z, hz⟩ : ∃ z, x.pos = z := ⟨_, rfl⟩
        rw [hz] at c0
        have HZ := Lib.hid hz
        clear hz
        by_cases h0 : z < 0
        · have HN : Hid (over ss ws (j + 1) = over ss ws j) := Lib.hid (by rw [HOV.out, wr1, if_neg (by rw [HZ.out]; omega)])
          go_wp2_with fail
          refine ⟨⟨j + 1, by omega, by go_num, Lib.hid (by rw [HN.out]; exact HO.out), hbr⟩, by simp [intOf]; omega⟩
        · by_cases h9 : (n : Int) ≤ z
          · have HN : Hid (over ss ws (j + 1) = over ss ws j) := Lib.hid (by rw [HOV.out, wr1, if_neg (by rw [HZ.out, HOL.out]; omega)])
            have h0' : (0 : Int) ≤ z := by omega
            go_wp2_with fail
            refine ⟨⟨j + 1, by omega, by go_num, Lib.hid (by rw [HN.out]; exact HO.out), hbr⟩, by simp [intOf]; omega⟩
          · obtain ⟨kp, rfl⟩ := Int.eq_ofNat_of_zero_le (show 0 ≤ z by omega)
            have hkn : kp < n := by omega
            have hkn1 : (kp : Int) < n := by omega
            have HN : Hid (over ss ws (j + 1) = (over ss ws j).set kp x.s) := Lib.hid (by rw [HOV.out, wr1, if_pos (by rw [HZ.out, HOL.out]; omega), HZ.out]; rfl)
            obtain ⟨g, hg⟩ := own_some HO.out (by omega)
            subst hg
            have hgb := own_blk HO.out (k := g) rfl
            have hgg := hgb.1
            have hgl := hgb.2
            clear h0 h9 hgb
            go_upto_region 8 with fail
            have HOD := Lib.hid (dsk.own_later HO.out ((Below.refl wr.heap.size wr).drew))
            have hbd : b2 < wr.drew.heap.size := hbw
            have HWD : Hid (wr.drew.rangeAt b2 (o2 + j * 36) x.c) := Lib.hid (Rd.rangeLater HWR.out hbw ((Below.refl wr.heap.size wr).drew))
            have HZD : Hid (∀ w', Below wr.drew.heap.size wr.drew w' → w'.cell? ⟨b2, o2 + j * 36, none⟩ = some (.int .i64 (kp : Int))) := Lib.hid (fun w' hw => by
              have := (wr_parts HAO.out (Rd.rangeLater HWD.out hbd hw)).1
              rw [HZ.out] at this
              exact this)
            refine wp_region_last (S := ext wr.drew) 12 (by kernel_rfl) (Below.refl _ _) (fun hH0 => ?_)
            refine wpAnyL_take (i := 0) (oi := { dst := some 40, op := Op.move (Operand.tmp 5), type := 22, pos := "ref.go:18", after := #[], guard := none }) (v := ?_) rfl (by kernel_rfl) (by kernel_rfl) (by kernel_rfl) (by kernel_rfl) (fun _ _ _ h => h) (Or.inl ⟨by rfl, ?_⟩) (by assumption) ?_
            rotate_left
            · (intro w' hSw; go_simp; try with_reducible rfl)
            try simp only [Act.put, List.setIfInBounds_toArray, List.set_cons_zero, List.set_cons_succ]
            refine wpAnyL_take (i := 1) (oi := { dst := some 41, op := Op.move (Operand.tmp 1), type := 23, pos := "ref.go:18", after := #[], guard := none }) (v := ?_) rfl (by kernel_rfl) (by kernel_rfl) (by kernel_rfl) (by kernel_rfl) (fun _ _ _ h => h) (Or.inl ⟨by rfl, ?_⟩) (by assumption) ?_
            rotate_left
            · (intro w' hSw; go_simp; try with_reducible rfl)
            try simp only [Act.put, List.setIfInBounds_toArray, List.set_cons_zero, List.set_cons_succ]
            refine wpAnyL_take (i := 2) (oi := { dst := some 42, op := Op.move (Operand.tmp 6), type := 3, pos := "ref.go:18", after := #[], guard := none }) (v := ?_) rfl (by kernel_rfl) (by kernel_rfl) (by kernel_rfl) (by kernel_rfl) (fun _ _ _ h => h) (Or.inl ⟨by rfl, ?_⟩) (by assumption) ?_
            rotate_left
            · (intro w' hSw; go_simp; try with_reducible rfl)
            try simp only [Act.put, List.setIfInBounds_toArray, List.set_cons_zero, List.set_cons_succ]
            refine wpAnyL_take (i := 3) (oi := { dst := some 43, op := Op.indexAddr 23 (Operand.tmp 41) (Operand.tmp 42), type := 0, pos := "ref.go:18", after := #[{ on := 1, ground := Ground.data }, { on := 2, ground := Ground.data }], guard := none }) (v := ?_) rfl (by kernel_rfl) (by kernel_rfl) (by kernel_rfl) (by kernel_rfl) (fun _ _ _ h => h) (Or.inl ⟨by rfl, ?_⟩) (by assumption) ?_
            rotate_left
            · (intro w' hSw; go_simp; try with_reducible rfl)
            try simp only [Act.put, List.setIfInBounds_toArray, List.set_cons_zero, List.set_cons_succ]
            refine wpAnyL_take (i := 4) (oi := { dst := some 44, op := Op.fieldAddr 55 (Operand.tmp 43) 0, type := 0, pos := "ref.go:18", after := #[{ on := 3, ground := Ground.data }], guard := none }) (v := ?_) rfl (by kernel_rfl) (by kernel_rfl) (by kernel_rfl) (by kernel_rfl) (fun _ _ _ h => h) (Or.inl ⟨by rfl, ?_⟩) (by assumption) ?_
            rotate_left
            · (intro w' hSw; go_simp; try with_reducible rfl)
            try simp only [Act.put, List.setIfInBounds_toArray, List.set_cons_zero, List.set_cons_succ]
            refine' wpAnyL_take (i := 5) (oi := { dst := some 45, op := Op.load 3 (Operand.tmp 44), type := 3, pos := "ref.go:18", after := #[{ on := 4, ground := Ground.data }], guard := none }) (v := _) rfl (by kernel_rfl) (by kernel_rfl) (by kernel_rfl) (by kernel_rfl) (fun _ _ _ h => h) (ld_cell (by rfl) 3 _ Try.underlying3 rfl _ rfl b2 (o2 + j * 36) rfl (.int .i64 (kp : Int)) (fun w' hw => HZD.out w' hw)) (by assumption) ?_
            try simp only [Act.put, List.setIfInBounds_toArray, List.set_cons_zero, List.set_cons_succ]
            refine wpAnyL_take (i := 6) (oi := { dst := some 46, op := Op.move (Operand.tmp 1), type := 23, pos := "ref.go:18", after := #[], guard := none }) (v := ?_) rfl (by kernel_rfl) (by kernel_rfl) (by kernel_rfl) (by kernel_rfl) (fun _ _ _ h => h) (Or.inl ⟨by rfl, ?_⟩) (by assumption) ?_
            rotate_left
            · (intro w' hSw; go_simp; try with_reducible rfl)
            try simp only [Act.put, List.setIfInBounds_toArray, List.set_cons_zero, List.set_cons_succ]
            refine wpAnyL_take (i := 7) (oi := { dst := some 47, op := Op.move (Operand.tmp 6), type := 3, pos := "ref.go:18", after := #[], guard := none }) (v := ?_) rfl (by kernel_rfl) (by kernel_rfl) (by kernel_rfl) (by kernel_rfl) (fun _ _ _ h => h) (Or.inl ⟨by rfl, ?_⟩) (by assumption) ?_
            rotate_left
            · (intro w' hSw; go_simp; try with_reducible rfl)
            try simp only [Act.put, List.setIfInBounds_toArray, List.set_cons_zero, List.set_cons_succ]
            refine wpAnyL_take (i := 8) (oi := { dst := some 48, op := Op.indexAddr 23 (Operand.tmp 46) (Operand.tmp 47), type := 0, pos := "ref.go:18", after := #[{ on := 6, ground := Ground.data }, { on := 7, ground := Ground.data }], guard := none }) (v := ?_) rfl (by kernel_rfl) (by kernel_rfl) (by kernel_rfl) (by kernel_rfl) (fun _ _ _ h => h) (Or.inl ⟨by rfl, ?_⟩) (by assumption) ?_
            rotate_left
            · (intro w' hSw; go_simp; try with_reducible rfl)
            try simp only [Act.put, List.setIfInBounds_toArray, List.set_cons_zero, List.set_cons_succ]
            refine wpAnyL_take (i := 9) (oi := { dst := some 49, op := Op.fieldAddr 55 (Operand.tmp 48) 1, type := 0, pos := "ref.go:18", after := #[{ on := 8, ground := Ground.data }], guard := none }) (v := ?_) rfl (by kernel_rfl) (by kernel_rfl) (by kernel_rfl) (by kernel_rfl) (fun _ _ _ h => h) (Or.inl ⟨by rfl, ?_⟩) (by assumption) ?_
            rotate_left
            · (intro w' hSw; go_simp; try with_reducible rfl)
            try simp only [Act.put, List.setIfInBounds_toArray, List.set_cons_zero, List.set_cons_succ]
            refine' wpAnyL_take (i := 10) (oi := { dst := some 50, op := Op.load 51 (Operand.tmp 49), type := 51, pos := "ref.go:18", after := #[{ on := 9, ground := Ground.data }], guard := none }) (v := _) rfl (by kernel_rfl) (by kernel_rfl) (by kernel_rfl) (by kernel_rfl) (fun _ _ _ h => h) (ld_sec (by rfl) _ rfl b2 (o2 + j * 36 + 1) rfl x.s HAO.out.1 (fun w' hw => (wr_parts HAO.out (Rd.rangeLater HWD.out hbd hw)).2.1)) (by assumption) ?_
            try simp only [Act.put, List.setIfInBounds_toArray, List.set_cons_zero, List.set_cons_succ]
            refine wpAnyL_take (i := 11) (oi := { dst := some 51, op := Op.indexAddr 22 (Operand.tmp 40) (Operand.tmp 45), type := 0, pos := "ref.go:18", after := #[{ on := 0, ground := Ground.data }, { on := 5, ground := Ground.data }, { on := 0, ground := Ground.phase }, { on := 1, ground := Ground.phase }, { on := 2, ground := Ground.phase }, { on := 3, ground := Ground.phase }, { on := 4, ground := Ground.phase }, { on := 5, ground := Ground.phase }, { on := 6, ground := Ground.phase }, { on := 7, ground := Ground.phase }, { on := 8, ground := Ground.phase }, { on := 9, ground := Ground.phase }, { on := 10, ground := Ground.phase }], guard := none }) (v := ?_) rfl (by kernel_rfl) (by kernel_rfl) (by kernel_rfl) (by kernel_rfl) (fun _ _ _ h => h) (Or.inl ⟨by rfl, ?_⟩) (by assumption) ?_
            rotate_left
            · (intro w' hSw; go_simp; try with_reducible rfl)
            try simp only [Act.put, List.setIfInBounds_toArray, List.set_cons_zero, List.set_cons_succ]
            -- 12
            refine wpAnyL_ready (rs := [12]) (by kernel_rfl) (by simp) ?_
            refine AllReadyL.cons (o := { dst := none, op := Op.store 51 (Operand.tmp 51) (Operand.tmp 50), type := 0, pos := "ref.go:18", after := #[{ on := 11, ground := Ground.data }, { on := 10, ground := Ground.data }, { on := 0, ground := Ground.phase }, { on := 1, ground := Ground.phase }, { on := 2, ground := Ground.phase }, { on := 3, ground := Ground.phase }, { on := 4, ground := Ground.phase }, { on := 5, ground := Ground.phase }, { on := 6, ground := Ground.phase }, { on := 7, ground := Ground.phase }, { on := 8, ground := Ground.phase }, { on := 9, ground := Ground.phase }, { on := 10, ground := Ground.phase }], guard := none }) rfl (fun K hK => ?_) AllReadyL.nil
            refine step_store_own (by rfl) _ _ (by rfl) w.heap.size g kp n c4 (by rfl) x.s (by rfl) HAO.out _ HOS.out (by rw [HOL.out]; exact hkn) HOD.out ?_
            intro w12 ho12 ht12
            have HO12 := Lib.hid ho12
            have HT12 := Lib.hid ht12
            clear ho12 ht12
            dsimp only
            refine hK.out _ _ (Or.inl rfl) (fun hHeld => ?_)
            clear hK K
            try simp only [Act.put, List.setIfInBounds_toArray, List.set_cons_zero, List.set_cons_succ]
            refine wpAnyL_done (by kernel_rfl) ?_ _
            clear hHeld hH0
            have hb12 : Below w.heap.size w w12 := hbr.drew.trans (HT12.out.below (show w.heap.size ≤ wr.drew.heap.size from hbr.size) (fun k hk => by rw [hk]; exact hgg))
            go_wp2_with fail
            exact ⟨⟨j + 1, by omega, by go_num, Lib.hid (by rw [HN.out]; exact HO12.out), hb12⟩, by simp [intOf]; omega⟩
      · obtain rfl : j = m := by omega
        have HF : Hid (Rd wr 32 (.slice p4 n c4) n (cellsOf (withL ss ws)) ∧ (withL ss ws).length = n) := Lib.hid ⟨by rw [HWL.out]; exact Own.rd HO.out, by rw [HWL.out, over_len ss ws j (by rw [HLL.out]; omega), HSL.out]⟩
        clear HO
        go_wp2_with fail
        go_ret
        obtain ⟨f1, f2⟩ := HF.out
        rw [f2]
        exact ⟨p4, c4, rfl, f1, hbr⟩
  · have HWL : Hid (withL ss ws = []) := Lib.hid (by rw [withL, if_neg (by rw [hsl]; exact hr)])
    clear h1 hs h2 hok hsl
    by_cases h0 : n < 1
    · have h0i : (n : Int) < 1 := by omega
      go_enter Try.func7, Try.ntmps7
      go_wp2_with fail
      go_ret
      rw [HWL.out]
      exact ⟨none, 0, rfl, rd_nil _ _, Below.refl _ _⟩
    · have h0i : (1 : Int) ≤ n := by omega
      have h9i : (65 : Int) < n := by omega
      go_enter Try.func7, Try.ntmps7
      go_wp2_with fail
      go_ret
      rw [HWL.out]
      exact ⟨none, 0, rfl, rd_nil _ _, Below.refl _ _⟩
end Go.Proofs.Ytpckdjnddoaffaa.lk
/- What the reference's Inode and Entry of layer 9 give. -/
namespace Go.Proofs.Ytpckdjnddoaffaa.lk
set_option maxRecDepth 100000
open Go.ChangeShapes Go.WideShapes Go.ChangeAt Go.RowKit
open Go.Proofs.Ytpckdjnddoaffaa.rows
open Go.Proofs.Ytpckdjnddoaffaa.sec
open Go.Proofs.Ytpckdjnddoaffaa.dsk (wf64)
open Go.Proofs.Ytpckdjnddoaffaa.ly
set_option linter.unusedVariables false
set_option linter.unusedSimpArgs false

theorem secAt_at {ss : List (List Int)} {k : Nat} (h : k < ss.length) : secAt ss (k : Int) = ss[k] := by
  rw [secAt, if_pos (by omega)]; simp [List.getD, h]
theorem secAt_out {ss : List (List Int)} {k : Nat} (h : ss.length ≤ k) : secAt ss (k : Int) = zero32 := by rw [secAt, if_neg (by omega)]
theorem rat_any (p : Option Addr) (n c : Nat) (ss : List (List Int)) (w : World) (h : Rd w 32 (.slice p n c) n (cellsOf ss)) (hs : Secs ss) (z : Int) (h0 : 0 ≤ z) (h9 : z ≤ 1000) (hn : n ≤ 100000) :
    Calls Try.prog 42 #[.slice p n c, .int .i64 z] w fun e w' => e = .returned (agg (secAt ss z)) ∧ Below w.heap.size w w' := by
  obtain ⟨k, rfl⟩ := Int.eq_ofNat_of_zero_le h0
  have hl : ss.length = n := by have h := h.cells; rw [cellsOf_len hs] at h; omega
  have A1 := Lib.hid (at_lit w)
  have hni : (n : Int) ≤ 100000 := by omega
  by_cases hk : k < n
  · obtain ⟨b, o, rfl, _, _, hb, _, hR⟩ := row_at h hs hk
    have HR := Lib.hid (Rd.rangeLater (hR k (by omega)) hb (below_alloc (Below.refl w.heap.size w) (.cells (u8s zero32).toArray 51)))
    have HS := Lib.hid (hs _ (List.getElem_mem (show k < ss.length by omega)))
    rw [secAt_at (by omega)]
    rw [← lit_zero] at HR
    generalize ss[k] = s at *
    clear hR h hs
    have hki : (k : Int) < n := by omega
    go_enter Try.func42, Try.ntmps42
    go_upto_region 1 with fail
    go_wp2_with (first | (refine load_row rfl (.tmp 12) rfl b (o + k * 32) rfl s HS.out.1 HR.out ?_) | (refine store_at rfl _ _ rfl rfl w.heap.size s zero32 rfl rfl HS.out.1 (by decide) A1.out ?_; intro w4 hA hB4 _; have A4 := Lib.hid hA; clear hA))
    refine ret_sec rfl w.heap.size _ rfl HS.out.1 A4.out rfl ⟨rfl, ?_⟩
    exact (below_alloc (Below.refl _ _) _).trans hB4
  · rw [secAt_out (by omega)]
    have hki : (n : Int) ≤ k := by omega
    clear h hs
    go_enter Try.func42, Try.ntmps42
    go_upto_region 1 with fail
    go_upto_region 2 with fail
    go_wp2_with (first | (refine store_at rfl (.tmp 4) (.tmp 9) rfl rfl w.heap.size zero32 zero32 rfl (congrArg Value.agg lit_zero) (by decide) (by decide) A1.out ?_; intro w4 hA hB4 _; have A4 := Lib.hid hA; clear hA))
    refine ret_sec rfl w.heap.size _ rfl (by decide) A4.out rfl ⟨rfl, ?_⟩
    exact (below_alloc (Below.refl _ _) _).trans hB4
theorem atI_lit (w : World) : AtI (w.alloc (.cells #[.int .i64 0, .int .i64 0, .int .i64 0, .int .i64 0, .int .i64 0, .int .i64 0] 80)) w.heap.size ino0 := atI_new w ino0
theorem atE_lit (w : World) : AtE (w.alloc (.cells #[.bool false, .int .i64 0, .string { data := #[] }, .int .i64 0] 42)) w.heap.size ent0 := atE_new w ent0
theorem ret_ino1 {fn : Func} {p : Tmp} {R : Ending → World → Prop} {a : Act} {w : World} (h : fn.results = #[.cell p 80]) (g : Nat) (x : Ino) (hp : a.tmps.getD p undef = .pointer (some ⟨g, 0, none⟩)) (hx : x.b.length = 4) (hg : AtI w g x)
    (hd : a.defers = []) (hR : R (.returned (aggI x)) w) : bodyPost Try.prog fn R .ret a w :=
  bodyPost_ret (results_cell_row h a.tmps w g _ _ _ _ hp hg und_ino rfl (by rw [info_ino]; simp [ino_len hx])) hd hR
theorem ret_ent1 {fn : Func} {p : Tmp} {R : Ending → World → Prop} {a : Act} {w : World} (h : fn.results = #[.cell p 42]) (g : Nat) (x : Ent) (hp : a.tmps.getD p undef = .pointer (some ⟨g, 0, none⟩)) (hg : AtE w g x)
    (hd : a.defers = []) (hR : R (.returned (aggE x)) w) : bodyPost Try.prog fn R .ret a w :=
  bodyPost_ret (results_cell_row h a.tmps w g _ _ _ _ hp hg und_ent rfl (by rw [info_ent]; rfl)) hd hR
/-- inode i of an image, entry k of it -/
def inoAt (ss : List (List Int)) (i : Int) : Ino := if 0 ≤ i ∧ i < 16 then inoOfV (secAt ss (1 + i)) else ino0
def entAt (ss : List (List Int)) (k : Int) : Ent := if 0 ≤ k ∧ k < 24 then entOfV (secAt ss (17 + k)) else ent0
theorem inoAt_four {ss : List (List Int)} (hs : Secs ss) (i : Int) : (inoAt ss i).b.length = 4 := by
  unfold inoAt
  split
  · exact inoOfV_four (secAt_sec hs _)
  · rfl
set_option maxHeartbeats 1600000 in
theorem rino_any (p : Option Addr) (n c : Nat) (ss : List (List Int)) (w : World) (h : Rd w 32 (.slice p n c) n (cellsOf ss)) (hs : Secs ss) (hn : n ≤ 100000) (i : Int) (hi : wf64 i) :
    Calls Try.prog 43 #[.slice p n c, .int .i64 i] w fun e w' => e = .returned (aggI (inoAt ss i)) ∧ Below w.heap.size w w' := by
  have A0 := Lib.hid (atI_lit w)
  have hb0 := below_alloc (Below.refl w.heap.size w) (.cells #[.int .i64 0, .int .i64 0, .int .i64 0, .int .i64 0, .int .i64 0, .int .i64 0] 80)
  have HR := h.later hb0
  obtain ⟨i1, i2⟩ := rows.wf_i64 hi
  by_cases hin : 0 ≤ i ∧ i < 16
  · have e : inoAt ss i = inoOfV (secAt ss (1 + i)) := by rw [inoAt, if_pos hin]
    rw [e]
    have HT := rat_any p n c ss _ HR hs (1 + i) (by omega) (by omega) hn
    have hS := secAt_sec hs (1 + i)
    have HI := Lib.hid fun w => rinodeOf_any (secAt ss (1 + i)) hS w
    have H4 := Lib.hid (inoOfV_four hS)
    obtain ⟨j1, j2⟩ := hin
    obtain ⟨W, hW⟩ : ∃ W, w.alloc (.cells #[.int .i64 0, .int .i64 0, .int .i64 0, .int .i64 0, .int .i64 0, .int .i64 0] 80) = W := ⟨_, rfl⟩
    rw [hW] at HT hb0 A0
    have HT' := Lib.hid HT
    have HB0 := Lib.hid hb0
    generalize inoOfV (secAt ss (1 + i)) = x at *
    generalize inoOfB (secAt ss (1 + i)) = xb at *
    generalize secAt ss (1 + i) = s at *
    clear HT HR h hs hS e hb0
    go_enter Try.func43, Try.ntmps43
    go_upto_region 1 with fail
    clear hW
    go_wp2_with (first | (go_at_call 42; refine HT'.out.mono ?_; rintro e w1 ⟨rfl, hb⟩; have B1 := Lib.hid (below_trans HB0.out hb); have A1 := Lib.hid (A0.out.later hb); clear hb) | (go_at_call 50; refine (HI.out _).mono ?_; rintro e w2 ⟨rfl, hb⟩; have B2 := Lib.hid (below_trans B1.out hb); have A2 := Lib.hid (A1.out.later hb); clear hb) | (refine store_ino rfl (.tmp 5) (.tmp 20) rfl rfl w2.heap.size x ino0 rfl rfl H4.out rfl (atI_lit w2) ?_; intro w3 hA hB _; have hb := (below_alloc (Below.refl _ w2) _).trans hB; have B3 := Lib.hid (below_trans B2.out hb); have A3 := Lib.hid (A2.out.later hb); have X3 := Lib.hid hA; clear hA hB hb) | (refine load_ino rfl (.tmp 5) rfl w2.heap.size rfl x H4.out X3.out ?_) | (refine store_ino rfl (.tmp 4) (.tmp 22) rfl rfl w.heap.size x ino0 rfl rfl H4.out rfl A3.out ?_; intro w4 hA hB _; have A4 := Lib.hid hA; have B4 := Lib.hid (B3.out.trans hB); clear hA hB))
    exact ret_ino1 rfl w.heap.size x rfl H4.out A4.out rfl ⟨rfl, B4.out⟩
  · have e : inoAt ss i = ino0 := by rw [inoAt, if_neg hin]
    rw [e]
    clear HR h hs e
    by_cases hz : i < 0
    · go_enter Try.func43, Try.ntmps43
      go_wp2_with fail
      exact ret_ino1 rfl w.heap.size ino0 rfl rfl A0.out rfl ⟨rfl, hb0⟩
    · have hz2 : 16 ≤ i := by omega
      have hz0 : 0 ≤ i := by omega
      go_enter Try.func43, Try.ntmps43
      go_wp2_with fail
      exact ret_ino1 rfl w.heap.size ino0 rfl rfl A0.out rfl ⟨rfl, hb0⟩
set_option maxHeartbeats 1600000 in
theorem rent_any (p : Option Addr) (n c : Nat) (ss : List (List Int)) (w : World) (h : Rd w 32 (.slice p n c) n (cellsOf ss)) (hs : Secs ss) (hn : n ≤ 100000) (i : Int) (hi : wf64 i) :
    Calls Try.prog 26 #[.slice p n c, .int .i64 i] w fun e w' => e = .returned (aggE (entAt ss i)) ∧ Below w.heap.size w w' := by
  have A0 := Lib.hid (atE_lit w)
  have hb0 := below_alloc (Below.refl w.heap.size w) (.cells #[.bool false, .int .i64 0, .string { data := #[] }, .int .i64 0] 42)
  have HR := h.later hb0
  obtain ⟨i1, i2⟩ := rows.wf_i64 hi
  by_cases hin : 0 ≤ i ∧ i < 24
  · have e : entAt ss i = entOfV (secAt ss (17 + i)) := by rw [entAt, if_pos hin]
    rw [e]
    have HT := rat_any p n c ss _ HR hs (17 + i) (by omega) (by omega) hn
    have hS := secAt_sec hs (17 + i)
    have HI := Lib.hid fun w => rentryOf_any (secAt ss (17 + i)) hS w
    obtain ⟨j1, j2⟩ := hin
    obtain ⟨W, hW⟩ : ∃ W, w.alloc (.cells #[.bool false, .int .i64 0, .string { data := #[] }, .int .i64 0] 42) = W := ⟨_, rfl⟩
    rw [hW] at HT hb0 A0
    have HT' := Lib.hid HT
    have HB0 := Lib.hid hb0
    generalize entOfV (secAt ss (17 + i)) = x at *
    generalize entOfB (secAt ss (17 + i)) = xb at *
    generalize secAt ss (17 + i) = s at *
    clear HT HR h hs hS e hb0
    go_enter Try.func26, Try.ntmps26
    go_upto_region 1 with fail
    clear hW
    go_wp2_with (first | (go_at_call 42; refine HT'.out.mono ?_; rintro e w1 ⟨rfl, hb⟩; have B1 := Lib.hid (below_trans HB0.out hb); have A1 := Lib.hid (A0.out.later hb); clear hb) | (go_at_call 41; refine (HI.out _).mono ?_; rintro e w2 ⟨rfl, hb⟩; have B2 := Lib.hid (below_trans B1.out hb); have A2 := Lib.hid (A1.out.later hb); clear hb) | (refine store_ent rfl (.tmp 5) (.tmp 20) rfl rfl w2.heap.size x ent0 rfl rfl (atE_lit w2) ?_; intro w3 hA hB _; have hb := (below_alloc (Below.refl _ w2) _).trans hB; have B3 := Lib.hid (below_trans B2.out hb); have A3 := Lib.hid (A2.out.later hb); have X3 := Lib.hid hA; clear hA hB hb) | (refine load_ent rfl (.tmp 5) rfl w2.heap.size rfl x X3.out ?_) | (refine store_ent rfl (.tmp 4) (.tmp 22) rfl rfl w.heap.size x ent0 rfl rfl A3.out ?_; intro w4 hA hB _; have A4 := Lib.hid hA; have B4 := Lib.hid (B3.out.trans hB); clear hA hB))
    exact ret_ent1 rfl w.heap.size x rfl A4.out rfl ⟨rfl, B4.out⟩
  · have e : entAt ss i = ent0 := by rw [entAt, if_neg hin]
    rw [e]
    clear HR h hs e
    by_cases hz : i < 0
    · go_enter Try.func26, Try.ntmps26
      go_wp2_with fail
      exact ret_ent1 rfl w.heap.size ent0 rfl A0.out rfl ⟨rfl, hb0⟩
    · have hz2 : 24 ≤ i := by omega
      have hz0 : 0 ≤ i := by omega
      go_enter Try.func26, Try.ntmps26
      go_wp2_with fail
      exact ret_ent1 rfl w.heap.size ent0 rfl A0.out rfl ⟨rfl, hb0⟩
end Go.Proofs.Ytpckdjnddoaffaa.lk
/- What the reference's Taken of layer 9 gives. -/
namespace Go.Proofs.Ytpckdjnddoaffaa.lk
set_option maxRecDepth 100000
open Go.ChangeShapes Go.WideShapes Go.ChangeAt Go.RowKit
open Go.Proofs.Ytpckdjnddoaffaa.rows
open Go.Proofs.Ytpckdjnddoaffaa.sec
open Go.Proofs.Ytpckdjnddoaffaa.dsk (wf64)
open Go.Proofs.Ytpckdjnddoaffaa.ly
set_option linter.unusedVariables false
set_option linter.unusedSimpArgs false

/-- does one of the first k entries name inode i? -/
def namedIn (ss : List (List Int)) (i : Int) (k : Nat) : Bool := (List.range k).any fun j => (entAt ss (j : Int)).used && decide ((entAt ss (j : Int)).target = i)
theorem namedIn_succ (ss : List (List Int)) (i : Int) (k : Nat) : namedIn ss i (k + 1) = (namedIn ss i k || ((entAt ss (k : Int)).used && decide ((entAt ss (k : Int)).target = i))) := by
  rw [namedIn, List.range_succ, List.any_append]; simp [namedIn]
theorem namedIn_more {ss : List (List Int)} {i : Int} {k : Nat} (h : namedIn ss i k = true) : ∀ m, k ≤ m → namedIn ss i m = true
  | 0, hm => by obtain rfl : k = 0 := by omega
                exact h
  | m + 1, hm => by
    by_cases e : k = m + 1
    · rw [← e]; exact h
    · rw [namedIn_succ, namedIn_more h m (by omega)]; rfl
def takenB (ss : List (List Int)) (i : Int) : Bool := namedIn ss i 24 || decide (i = 0)
set_option maxHeartbeats 1600000 in
theorem rtaken_any (p : Option Addr) (n c : Nat) (ss : List (List Int)) (w : World) (h : Rd w 32 (.slice p n c) n (cellsOf ss)) (hs : Secs ss) (hn : n ≤ 100000) (i : Int) (hi : wf64 i) :
    Calls Try.prog 25 #[.slice p n c, .int .i64 i] w fun e w' => e = .returned (.bool (takenB ss i)) ∧ Below w.heap.size w w' := by
  have HE := Lib.hid fun (k : Nat) (hk : k ≤ 24) w' (hb : Below w.heap.size w w') => rent_any p n c ss w' (h.later hb) hs hn (k : Int) (WalkArith.wf_i64 (by omega))
  obtain ⟨i1, i2⟩ := rows.wf_i64 hi
  clear h hs hi
  go_enter Try.func25, Try.ntmps25
  go_wp2_with fail
  go_loopw [5] (fun kv wr => ∃ k : Nat, k ≤ 24 ∧ kv = .int .i64 (k : Int) ∧ Hid (namedIn ss i k = false) ∧ Hid (Below w.heap.size w wr)) (fun kv _ => 24 - (intOf kv).toNat)
  case atStart => exact ⟨0, by omega, rfl, Lib.hid rfl, Lib.hid (Below.refl _ _)⟩
  case round =>
    obtain ⟨k, hk, rfl, HN, HB⟩ := hrel
    by_cases hlt : k < 24
    · have hlti : (k : Int) < 24 := by omega
      have HEk := Lib.hid (HE.out k (by omega) wr HB.out)
      have HS := Lib.hid (namedIn_succ ss i k)
      have HM := Lib.hid fun h => namedIn_more (ss := ss) (i := i) (k := k + 1) h 24 (by omega)
      generalize entAt ss (k : Int) = x at HEk HS
      obtain ⟨u, pa, nm, tg⟩ := x
      simp only at HEk HS
      cases u with
      | false =>
        have HN1 : Hid (namedIn ss i (k + 1) = false) := Lib.hid (by rw [HS.out, HN.out]; rfl)
        clear HS
        go_wp2_with (go_at_call 26; refine HEk.out.mono ?_; rintro e w1 ⟨rfl, hb⟩; have B1 := Lib.hid (below_trans HB.out hb); clear hb)
        go_roundw
        case rel => exact ⟨k + 1, by omega, by go_num, HN1, Lib.hid (below_alloc B1.out _)⟩
        case measure => simp [intOf]; omega
      | true =>
        by_cases ht : tg = i
        · have HT : Hid (takenB ss i = true) := Lib.hid (by rw [takenB, HM.out (by rw [HS.out, ht]; simp)]; rfl)
          have hte : (tg == i) = true := by rw [ht]; simp
          subst ht
          clear HS HM
          go_wp2_with (go_at_call 26; refine HEk.out.mono ?_; rintro e w1 ⟨rfl, hb⟩; have B1 := Lib.hid (below_trans HB.out hb); clear hb)
          go_ret
          exact ⟨by rw [HT.out]; rfl, below_alloc B1.out _⟩
        · have HN1 : Hid (namedIn ss i (k + 1) = false) := Lib.hid (by rw [HS.out, HN.out, decide_eq_false ht]; rfl)
          have hte : (tg == i) = false := beq_eq_false_iff_ne.2 ht
          clear HS HM ht
          go_wp2_with (go_at_call 26; refine HEk.out.mono ?_; rintro e w1 ⟨rfl, hb⟩; have B1 := Lib.hid (below_trans HB.out hb); clear hb)
          go_roundw
          case rel => exact ⟨k + 1, by omega, by go_num, HN1, Lib.hid (below_alloc B1.out _)⟩
          case measure => simp [intOf]; omega
    · obtain rfl : k = 24 := by omega
      have HT : Hid (takenB ss i = decide (i = 0)) := Lib.hid (by rw [takenB, HN.out]; rfl)
      go_wp2_with fail
      go_ret
      exact ⟨by rw [HT.out, show decide (i = 0) = (i == 0) by rw [Bool.eq_iff_iff]; simp]; rfl, HB.out⟩
end Go.Proofs.Ytpckdjnddoaffaa.lk
/- The lowest number of which a test tells yes. -/
namespace Go.Proofs.Ytpckdjnddoaffaa.lk
set_option maxRecDepth 100000
open Go.ChangeShapes Go.WideShapes Go.ChangeAt Go.RowKit
set_option linter.unusedVariables false
set_option linter.unusedSimpArgs false

/-- the lowest number below k of which p tells yes -/
def upto (p : Nat → Bool) (k : Nat) : Option Nat := (List.range k).find? p
theorem upto_succ (p : Nat → Bool) (k : Nat) : upto p (k + 1) = (upto p k).or (if p k then some k else none) := by
  rw [upto, List.range_succ, List.find?_append]
  cases h : p k <;> simp [upto, h]
theorem upto_miss {p : Nat → Bool} {k : Nat} (h : upto p k = none) (hk : p k = false) : upto p (k + 1) = none := by rw [upto_succ, h, hk]; rfl
theorem upto_hit {p : Nat → Bool} {k : Nat} (h : upto p k = none) (hk : p k = true) : ∀ m, k < m → upto p m = some k
  | 0, hm => by omega
  | m + 1, hm => by
    rw [upto_succ]
    by_cases e : k = m
    · subst e; rw [h, hk]; rfl
    · rw [upto_hit h hk m (by omega)]; rfl
theorem upto_none {p : Nat → Bool} {k : Nat} : upto p k = none ↔ ∀ i, i < k → p i = false := by
  simp [upto, List.find?_eq_none]
theorem upto_some {p : Nat → Bool} {k i : Nat} (h : upto p k = some i) : i < k ∧ p i = true ∧ ∀ j, j < i → p j = false := by
  induction k with
  | zero => cases h
  | succ k ih =>
    rw [upto_succ] at h
    cases hu : upto p k with
    | some j =>
      rw [hu] at h
      obtain rfl : j = i := Option.some.inj h
      obtain ⟨h1, h2, h3⟩ := ih hu
      exact ⟨by omega, h2, h3⟩
    | none =>
      rw [hu] at h
      cases hk : p k with
      | false => rw [hk] at h; cases h
      | true =>
        rw [hk] at h
        obtain rfl : k = i := Option.some.inj h
        exact ⟨by omega, hk, upto_none.1 hu⟩
def optV (o : Option Nat) : Value := .tuple #[.int .i64 ((o.getD 0 : Nat) : Int), .bool o.isSome]
/-- how many of the first k numbers p tells yes of -/
def cntU (p : Nat → Bool) : Nat → Nat
  | 0 => 0
  | k + 1 => if p k then cntU p k + 1 else cntU p k
theorem cntU_le (p : Nat → Bool) : ∀ k, cntU p k ≤ k
  | 0 => Nat.le_refl _
  | k + 1 => by
    have := cntU_le p k
    rw [cntU]
    split <;> omega
end Go.Proofs.Ytpckdjnddoaffaa.lk
/- Layer 10: what is free on a disk. -/
namespace Go.Proofs.Ytpckdjnddoaffaa.al
set_option maxRecDepth 100000
open Go.ChangeShapes Go.WideShapes Go.ChangeAt Go.RowKit
open Go.Proofs.Ytpckdjnddoaffaa.rows
open Go.Proofs.Ytpckdjnddoaffaa.sec
open Go.Proofs.Ytpckdjnddoaffaa.dsk (wf64)
open Go.Proofs.Ytpckdjnddoaffaa.ly
open Go.Proofs.Ytpckdjnddoaffaa.lk
set_option linter.unusedVariables false
set_option linter.unusedSimpArgs false

/-- the lowest free inode, the lowest free entry -/
def frI (ss : List (List Int)) : Option Nat := upto (fun n => !takenB ss (n : Int)) 16
def frE (ss : List (List Int)) : Option Nat := upto (fun k => !(entAt ss (k : Int)).used) 24
theorem ino_fine {ss : List (List Int)} (hs : Secs ss) (i : Int) : InoFine (inoAt ss i) := by
  have f0 : InoFine ino0 := ⟨Int.le_refl _, by decide, Int.le_refl _, by decide, fun z hz => by simp [ino0] at hz; omega⟩
  unfold inoAt
  split
  · rw [inoOfV]
    split
    · rename_i _ h
      rw [inoOfB, Bool.and_eq_true] at h
      exact right_fine (inoOf_four (secAt_sec hs _)) h.1
    · exact f0
  · exact f0
/-- the marks of blocks -/
def setAll (l : List Bool) (bs : List Int) : List Bool := bs.foldl (fun l b => l.set b.toNat true) l
theorem setAll_len (bs : List Int) : ∀ (l : List Bool), (setAll l bs).length = l.length := by
  induction bs with
  | nil => intro l; rfl
  | cons b r ih => intro l; rw [setAll, List.foldl_cons]; exact (ih _).trans (by simp)
theorem setAll_take {l : List Bool} {bs : List Int} {i : Nat} (h : i < bs.length) : setAll l (bs.take (i + 1)) = (setAll l (bs.take i)).set (bs.getD i 0).toNat true := by
  rw [List.take_succ_eq_append_getElem h, setAll, List.foldl_append]
  simp [setAll, List.getD, h]
theorem setAll_at (bs : List Int) (hb : ∀ z ∈ bs, 0 ≤ z) : ∀ (l : List Bool) (b : Nat), b < l.length → (setAll l bs).getD b false = (l.getD b false || bs.contains (b : Int)) := by
  induction bs with
  | nil => intro l b _; simp [setAll]
  | cons x r ih =>
    intro l b hl
    rw [setAll, List.foldl_cons, ← setAll, ih (fun z hz => hb z (List.mem_cons_of_mem _ hz)) _ b (by simpa using hl)]
    have hx := hb x (List.mem_cons_self ..)
    by_cases e : x = (b : Int)
    · subst e
      simp [List.getD, hl]
    · have e2 : x.toNat ≠ b := by omega
      have e3 : ((b : Int) == x) = false := beq_eq_false_iff_ne.2 (fun h => e h.symm)
      rw [List.contains_cons, e3, Bool.false_or]
      simp [List.getD, List.getElem?_set, e2]
def liveB (ss : List (List Int)) (n : Nat) : Bool := decide ((inoAt ss (n : Int)).kind = 1) && takenB ss (n : Int)
def marks0 : List Bool := List.replicate 25 false
def markU (ss : List (List Int)) : Nat → List Bool
  | 0 => marks0
  | n + 1 => if liveB ss n then setAll (markU ss n) (inoAt ss (n : Int)).b else markU ss n
theorem markU_len (ss : List (List Int)) : ∀ n, (markU ss n).length = 25
  | 0 => by simp [markU, marks0]
  | n + 1 => by
    rw [markU]
    split
    · rw [setAll_len, markU_len ss n]
    · exact markU_len ss n
def marksOf (ss : List (List Int)) : List Bool := (markU ss 16).set 0 true
theorem marksOf_len (ss : List (List Int)) : (marksOf ss).length = 25 := by rw [marksOf, List.length_set, markU_len]
/-- is block b in use by one of the first n inodes? -/
def hasU (ss : List (List Int)) (b : Nat) (n : Nat) : Bool := (List.range n).any fun i => liveB ss i && (inoAt ss (i : Int)).b.contains (b : Int)
theorem hasU_succ (ss : List (List Int)) (b n : Nat) : hasU ss b (n + 1) = (hasU ss b n || (liveB ss n && (inoAt ss (n : Int)).b.contains (b : Int))) := by
  rw [hasU, List.range_succ, List.any_append]; simp [hasU]
theorem markU_at {ss : List (List Int)} (hs : Secs ss) (b : Nat) (hb : b < 25) : ∀ n, (markU ss n).getD b false = hasU ss b n
  | 0 => by rw [markU, marks0, List.getD, List.getElem?_replicate, if_pos hb]; rfl
  | n + 1 => by
    rw [markU, hasU_succ]
    cases hl : liveB ss n with
    | false => rw [if_neg (by decide), Bool.false_and, Bool.or_false, markU_at hs b hb n]
    | true => rw [if_pos rfl, setAll_at _ (fun z hz => ((ino_fine hs _).b z hz).1) _ b (by rw [markU_len]; exact hb), Bool.true_and, markU_at hs b hb n]
def usedB (ss : List (List Int)) (b : Nat) : Bool := b == 0 || hasU ss b 16
theorem marksOf_at {ss : List (List Int)} (hs : Secs ss) (b : Nat) (hb : b < 25) : (marksOf ss).getD b false = usedB ss b := by
  rw [marksOf, usedB]
  by_cases h0 : b = 0
  · subst h0
    rw [List.getD, List.getElem?_set, markU_len]; rfl
  · have e : (b == 0) = false := beq_eq_false_iff_ne.2 h0
    rw [e, Bool.false_or, List.getD, List.getElem?_set_ne (by omega), ← List.getD]
    exact markU_at hs b hb 16
/-- the free blocks below b, rising -/
def frU (ss : List (List Int)) : Nat → List Nat
  | 0 => []
  | b + 1 => if usedB ss b then frU ss b else frU ss b ++ [b]
def frB (ss : List (List Int)) : List Nat := frU ss 25
theorem frU_len (ss : List (List Int)) : ∀ k, (frU ss k).length ≤ k
  | 0 => Nat.le_refl _
  | k + 1 => by
    have := frU_len ss k
    rw [frU]
    split
    · omega
    · simp; omega
theorem used0 (ss : List (List Int)) : usedB ss 0 = true := rfl
theorem frU_pre (ss : List (List Int)) (k : Nat) : ∀ m, frU ss k <+: frU ss (k + m)
  | 0 => List.prefix_refl _
  | m + 1 => by
    have h := frU_pre ss k m
    rw [← Nat.add_assoc, frU]
    split
    · exact h
    · exact h.trans (List.prefix_append _ _)
def cntI (ss : List (List Int)) : Nat := cntU (fun n => takenB ss (n : Int)) 16
def cntE (ss : List (List Int)) : Nat := cntU (fun k => (entAt ss (k : Int)).used) 24
/-- blocks 1 to k in use -/
def cntBU (ss : List (List Int)) (k : Nat) : Nat := cntU (fun i => usedB ss (i + 1)) k
def cntB (ss : List (List Int)) : Nat := cntBU ss 24
theorem fr_cnt (ss : List (List Int)) : ∀ k, (frU ss (k + 1)).length + cntBU ss k = k
  | 0 => by rw [frU, if_pos (used0 ss)]; rfl
  | k + 1 => by
    have := fr_cnt ss k
    rw [frU, cntBU, cntU]
    unfold cntBU at this
    cases hu : usedB ss (k + 1) with
    | true => rw [if_pos rfl, if_pos rfl]; omega
    | false => rw [if_neg (by decide), if_neg (by decide), List.length_append]; simp; omega
theorem frB_len (ss : List (List Int)) : (frB ss).length = 24 - cntB ss ∧ cntB ss ≤ 24 := by
  have h : (frU ss 25).length + cntBU ss 24 = 24 := fr_cnt ss 24
  have h2 := cntU_le (fun i => usedB ss (i + 1)) 24
  unfold frB cntB
  unfold cntBU at *
  omega
end Go.Proofs.Ytpckdjnddoaffaa.al
/- Rows of 25 marks in memory. -/
namespace Go.Proofs.Ytpckdjnddoaffaa.al
set_option maxRecDepth 100000
open Go.ChangeShapes Go.WideShapes Go.ChangeAt Go.RowKit
open Go.Proofs.Ytpckdjnddoaffaa.rows
open Go.Proofs.Ytpckdjnddoaffaa.sec
open Go.Proofs.Ytpckdjnddoaffaa.dsk (wf64 setCell_heap cell_row frozen_row)
open Go.Proofs.Ytpckdjnddoaffaa.ly
open Go.Proofs.Ytpckdjnddoaffaa.lk
set_option linter.unusedVariables false
set_option linter.unusedSimpArgs false

def boolsV (l : List Bool) : List Value := l.map .bool
abbrev aggM (l : List Bool) : Value := .agg (boolsV l).toArray
theorem boolsV_len (l : List Bool) : (boolsV l).length = l.length := by simp [boolsV]
theorem boolsV_one (l : List Bool) : ∀ u ∈ boolsV l, u.oneCell' = true := by
  intro u hu
  obtain ⟨b, _, rfl⟩ := List.mem_map.1 hu
  rfl
theorem info_m : (Try.prog.info? 67).map (·.size) = some 25 := by kernel_rfl
def AtM (w : World) (g : Nat) (l : List Bool) : Prop := w.heap[g]? = some (.cells (boolsV l).toArray 67 (0, 0))
theorem AtM.later {w w' : World} {g : Nat} {l : List Bool} (h : AtM w g l) (k : Below w.heap.size w w') : AtM w' g l := (k.block g (Array.getElem?_eq_some_iff.1 h).1).trans h
theorem AtM.lt {w : World} {g : Nat} {l : List Bool} (h : AtM w g l) : g < w.heap.size := (Array.getElem?_eq_some_iff.1 h).1
theorem atM_new (w : World) (l : List Bool) : AtM (w.alloc (.cells (boolsV l).toArray 67)) w.heap.size l := heap_alloc_new _ _
theorem lit_m : (#[.bool false, .bool false, .bool false, .bool false, .bool false, .bool false, .bool false, .bool false, .bool false, .bool false, .bool false, .bool false, .bool false, .bool false, .bool false, .bool false, .bool false, .bool false, .bool false, .bool false, .bool false, .bool false, .bool false, .bool false, .bool false] : Array Value) = (boolsV marks0).toArray := by kernel_rfl
theorem atM_lit (w : World) : AtM (w.alloc (.cells #[.bool false, .bool false, .bool false, .bool false, .bool false, .bool false, .bool false, .bool false, .bool false, .bool false, .bool false, .bool false, .bool false, .bool false, .bool false, .bool false, .bool false, .bool false, .bool false, .bool false, .bool false, .bool false, .bool false, .bool false, .bool false] 67)) w.heap.size marks0 := by
  rw [lit_m]
  exact atM_new w marks0
theorem AtM.cell {w : World} {g : Nat} {l : List Bool} (h : AtM w g l) {k : Nat} (hk : k < l.length) : w.cell? ⟨g, k, none⟩ = some (.bool (l.getD k false)) :=
  cell_row h k _ (by simp [boolsV, List.getD, hk])
theorem AtM.frozen {w : World} {g : Nat} {l : List Bool} (h : AtM w g l) (k : Nat) : w.frozen? ⟨g, k, none⟩ = false := frozen_row h k
theorem AtM.set {w : World} {g : Nat} {l : List Bool} (h : AtM w g l) (k : Nat) (b : Bool) : AtM (w.setCell ⟨g, k, none⟩ (.bool b)) g (l.set k b) := by
  unfold AtM
  rw [setCell_heap h]
  congr 2
  simp [boolsV, List.map_set]
theorem load_m {ops : Array Oper} {rest : List Oper} {o : Oper} {a : Act} {w : World} {Q : Exit → Act → World → Prop} (hgd : o.guard = none) (x : Operand) (ho : o.op = .load 67 x)
    (g : Nat) (hx : a.eval x = .pointer (some ⟨g, 0, none⟩)) (l : List Bool) (hs : l.length = 25) (hg : AtM w g l)
    (h : wpList Try.prog ops Q rest (a.put o.dst (aggM l)) w) : wpList Try.prog ops Q (o :: rest) a w :=
  wpList_load_row hgd 67 x ho g hx 67 _ _ _ hg Try.underlying67 rfl (by rw [info_m]; simp [boolsV, hs]) h
theorem store_m {ops : Array Oper} {rest : List Oper} {o : Oper} {a : Act} {w : World} {Q : Exit → Act → World → Prop} (hgd : o.guard = none) (x y : Operand) (ho : o.op = .store 67 x y) (hd : o.dst = none)
    (g : Nat) (s old : List Bool) (hx : a.eval x = .pointer (some ⟨g, 0, none⟩)) (hy : a.eval y = aggM s) (hs : s.length = 25) (hold : old.length = 25) (hg : AtM w g old)
    (h : ∀ w', AtM w' g s → Below g w w' → wpList Try.prog ops Q rest a w') : wpList Try.prog ops Q (o :: rest) a w := by
  have hl : (boolsV s).toArray.size = 25 := by simp [boolsV, hs]
  refine wpList_store_row hgd 67 x y ho g (boolsV s).toArray hx hy 67 _ hg (by rw [info_m, hl]) (by simp [boolsV, hs, hold]) (by simp only [List.all_toArray]; exact List.all_eq_true.2 (boolsV_one s)) ?_
  rw [hd]
  exact h _ (setRow_heap w g _ _ _ _ hg) ((Below.refl g w).trans ⟨rfl, rfl, rfl, by simp [World.setRow], fun k hk => setRow_other w g k _ (by omega)⟩)
theorem ret_m {fn : Func} {p : Tmp} {R : Ending → World → Prop} {a : Act} {w : World} (h : fn.results = #[.cell p 67]) (g : Nat) (s : List Bool) (hp : a.tmps.getD p undef = .pointer (some ⟨g, 0, none⟩)) (hs : s.length = 25) (hg : AtM w g s)
    (hd : a.defers = []) (hR : R (.returned (aggM s)) w) : bodyPost Try.prog fn R .ret a w :=
  bodyPost_ret (results_cell_row h a.tmps w g _ _ _ _ hp hg Try.underlying67 rfl (by rw [info_m]; simp [boolsV, hs])) hd hR
end Go.Proofs.Ytpckdjnddoaffaa.al
/- What the reference's functions of layer 10 give. -/
namespace Go.Proofs.Ytpckdjnddoaffaa.al
set_option maxRecDepth 100000
open Go.ChangeShapes Go.WideShapes Go.ChangeAt Go.RowKit
open Go.Proofs.Ytpckdjnddoaffaa.rows
open Go.Proofs.Ytpckdjnddoaffaa.sec
open Go.Proofs.Ytpckdjnddoaffaa.dsk (wf64)
open Go.Proofs.Ytpckdjnddoaffaa.ly
open Go.Proofs.Ytpckdjnddoaffaa.lk
set_option linter.unusedVariables false
set_option linter.unusedSimpArgs false

set_option maxHeartbeats 1600000 in
theorem rfri_any (p : Option Addr) (n c : Nat) (ss : List (List Int)) (w : World) (h : Rd w 32 (.slice p n c) n (cellsOf ss)) (hs : Secs ss) (hn : n ≤ 100000) :
    Calls Try.prog 9 #[.slice p n c] w fun e w' => e = .returned (optV (frI ss)) ∧ Below w.heap.size w w' := by
  have HE := Lib.hid fun (k : Nat) (hk : k ≤ 16) w' (hb : Below w.heap.size w w') => rtaken_any p n c ss w' (h.later hb) hs hn (k : Int) (WalkArith.wf_i64 (by omega))
  clear h hs
  go_enter Try.func9, Try.ntmps9
  go_wp2_with fail
  go_loopw [4] (fun kv wr => ∃ k : Nat, k ≤ 16 ∧ kv = .int .i64 (k : Int) ∧ Hid (upto (fun n => !takenB ss (n : Int)) k = none) ∧ Hid (Below w.heap.size w wr)) (fun kv _ => 16 - (intOf kv).toNat)
  case atStart => exact ⟨0, by omega, rfl, Lib.hid rfl, Lib.hid (Below.refl _ _)⟩
  case round =>
    obtain ⟨k, hk, rfl, HN, HB⟩ := hrel
    by_cases hlt : k < 16
    · have hlti : (k : Int) < 16 := by omega
      have HEk := Lib.hid (HE.out k (by omega) wr HB.out)
      have HM := Lib.hid fun hf => upto_miss (p := fun n => !takenB ss (n : Int)) HN.out hf
      have HH := Lib.hid fun ht => upto_hit (p := fun n => !takenB ss (n : Int)) HN.out ht 16 (by omega)
      cases ht : takenB ss (k : Int) with
      | true =>
        rw [ht] at HEk
        have HN1 := Lib.hid (HM.out (by simp [ht]))
        clear HM HH ht
        go_wp2_with (go_at_call 25; refine HEk.out.mono ?_; rintro e w1 ⟨rfl, hb⟩; have B1 := Lib.hid (below_trans HB.out hb); clear hb)
        go_roundw
        case rel => exact ⟨k + 1, by omega, by go_num, HN1, B1⟩
        case measure => simp [intOf]; omega
      | false =>
        rw [ht] at HEk
        have HZ : Hid (frI ss = some k) := HH.out (by simp [ht])
        clear HM HH ht
        go_wp2_with (go_at_call 25; refine HEk.out.mono ?_; rintro e w1 ⟨rfl, hb⟩; have B1 := Lib.hid (below_trans HB.out hb); clear hb)
        go_ret2
        exact ⟨by rw [HZ.out]; rfl, B1.out⟩
    · obtain rfl : k = 16 := by omega
      have HZ : Hid (frI ss = none) := HN
      go_wp2_with fail
      go_ret2
      exact ⟨by rw [HZ.out]; rfl, HB.out⟩
set_option maxHeartbeats 1600000 in
theorem rfre_any (p : Option Addr) (n c : Nat) (ss : List (List Int)) (w : World) (h : Rd w 32 (.slice p n c) n (cellsOf ss)) (hs : Secs ss) (hn : n ≤ 100000) :
    Calls Try.prog 11 #[.slice p n c] w fun e w' => e = .returned (optV (frE ss)) ∧ Below w.heap.size w w' := by
  have HE := Lib.hid fun (k : Nat) (hk : k ≤ 24) w' (hb : Below w.heap.size w w') => rent_any p n c ss w' (h.later hb) hs hn (k : Int) (WalkArith.wf_i64 (by omega))
  clear h hs
  go_enter Try.func11, Try.ntmps11
  go_wp2_with fail
  go_loopw [4, 5] (fun kv _ wr => ∃ k : Nat, k ≤ 24 ∧ kv = .int .i64 (k : Int) ∧ Hid (upto (fun k => !(entAt ss (k : Int)).used) k = none) ∧ Hid (Below w.heap.size w wr)) (fun kv _ _ => 24 - (intOf kv).toNat)
  case atStart => exact ⟨0, by omega, rfl, Lib.hid rfl, Lib.hid (Below.refl _ _)⟩
  case round =>
    obtain ⟨k, hk, rfl, HN, HB⟩ := hrel
    by_cases hlt : k < 24
    · have hlti : (k : Int) < 24 := by omega
      have HEk := Lib.hid (HE.out k (by omega) wr HB.out)
      have HM := Lib.hid fun hf => upto_miss (p := fun k => !(entAt ss (k : Int)).used) HN.out hf
      have HH := Lib.hid fun ht => upto_hit (p := fun k => !(entAt ss (k : Int)).used) HN.out ht 24 (by omega)
      generalize entAt ss (k : Int) = x at HEk HM HH
      obtain ⟨u, pa, nm, tg⟩ := x
      cases u with
      | true =>
        have HN1 := Lib.hid (HM.out rfl)
        clear HM HH
        go_wp2_with (go_at_call 26; refine HEk.out.mono ?_; rintro e w1 ⟨rfl, hb⟩; have B1 := Lib.hid (below_trans HB.out hb); clear hb)
        go_roundw
        case rel => exact ⟨k + 1, by omega, by go_num, HN1, Lib.hid (below_alloc B1.out _)⟩
        case measure => simp [intOf]; omega
      | false =>
        have HZ : Hid (frE ss = some k) := HH.out rfl
        clear HM HH
        go_wp2_with (go_at_call 26; refine HEk.out.mono ?_; rintro e w1 ⟨rfl, hb⟩; have B1 := Lib.hid (below_trans HB.out hb); clear hb)
        go_ret2
        exact ⟨by rw [HZ.out]; rfl, below_alloc B1.out _⟩
    · obtain rfl : k = 24 := by omega
      have HZ : Hid (frE ss = none) := HN
      go_wp2_with fail
      go_ret2
      exact ⟨by rw [HZ.out]; rfl, HB.out⟩
end Go.Proofs.Ytpckdjnddoaffaa.al
/- What the reference's Used of layer 10 gives. -/
namespace Go.Proofs.Ytpckdjnddoaffaa.al
set_option maxRecDepth 100000
open Go.ChangeShapes Go.WideShapes Go.ChangeAt Go.RowKit
open Go.Proofs.Ytpckdjnddoaffaa.rows
open Go.Proofs.Ytpckdjnddoaffaa.sec
open Go.Proofs.Ytpckdjnddoaffaa.dsk (wf64)
open Go.Proofs.Ytpckdjnddoaffaa.ly
open Go.Proofs.Ytpckdjnddoaffaa.lk
set_option linter.unusedVariables false
set_option linter.unusedSimpArgs false

theorem AtM.other {w : World} {g k j : Nat} {l : List Bool} (h : AtM w k l) (hk : k ≠ g) (v : Value) : AtM (w.setCell ⟨g, j, none⟩ v) k l := (Below.heap_setCell _ _ _ _ hk).trans h
/-- what holds while the marks of inode k are made; g: the block of the inode -/
structure MarkAt (w : World) (ss : List (List Int)) (l : List Bool) (wr : World) : Prop where
  res : AtM wr w.heap.size marks0
  row : AtM wr (w.heap.size + 1) l
  below : Below w.heap.size w wr
theorem MarkAt.later {w : World} {ss : List (List Int)} {l : List Bool} {a b : World} (h : MarkAt w ss l a) (k : Below a.heap.size a b) : MarkAt w ss l b := ⟨h.res.later k, h.row.later k, below_trans h.below k⟩
theorem MarkAt.set {w : World} {ss : List (List Int)} {l : List Bool} {a : World} (h : MarkAt w ss l a) (k : Nat) : MarkAt w ss (l.set k true) (a.setCell ⟨w.heap.size + 1, k, none⟩ (.bool true)) :=
  ⟨h.res.other (by omega) _, h.row.set k true, h.below.setCell (p := ⟨w.heap.size + 1, k, none⟩) (Nat.le_succ _) _⟩
set_option maxRecDepth 100000 in
set_option maxHeartbeats 3200000 in
theorem rused_any (p : Option Addr) (n c : Nat) (ss : List (List Int)) (w : World) (h : Rd w 32 (.slice p n c) n (cellsOf ss)) (hs : Secs ss) (hn : n ≤ 100000) :
    Calls Try.prog 28 #[.slice p n c] w fun e w' => e = .returned (aggM (marksOf ss)) ∧ Below w.heap.size w w' := by
  have HI := Lib.hid fun (k : Nat) (hk : k ≤ 16) w' (hb : Below w.heap.size w w') => rino_any p n c ss w' (h.later hb) hs hn (k : Int) (WalkArith.wf_i64 (by omega))
  have HT := Lib.hid fun (k : Nat) (hk : k ≤ 16) w' (hb : Below w.heap.size w w') => rtaken_any p n c ss w' (h.later hb) hs hn (k : Int) (WalkArith.wf_i64 (by omega))
  have HF := Lib.hid fun k => (ino_fine hs k).b
  have HF4 := Lib.hid fun k => inoAt_four hs k
  have HML := Lib.hid (markU_len ss)
  have HMO := Lib.hid (marksOf_len ss)
  have A0 := atM_lit w
  obtain ⟨W1, hW1⟩ : ∃ W1, w.alloc (.cells #[.bool false, .bool false, .bool false, .bool false, .bool false, .bool false, .bool false, .bool false, .bool false, .bool false, .bool false, .bool false, .bool false, .bool false, .bool false, .bool false, .bool false, .bool false, .bool false, .bool false, .bool false, .bool false, .bool false, .bool false, .bool false] 67) = W1 := ⟨_, rfl⟩
  have hz1 : W1.heap.size = w.heap.size + 1 := by rw [← hW1]; simp
  have A1 := atM_lit W1
  obtain ⟨W2, hW2⟩ : ∃ W2, W1.alloc (.cells #[.bool false, .bool false, .bool false, .bool false, .bool false, .bool false, .bool false, .bool false, .bool false, .bool false, .bool false, .bool false, .bool false, .bool false, .bool false, .bool false, .bool false, .bool false, .bool false, .bool false, .bool false, .bool false, .bool false, .bool false, .bool false] 67) = W2 := ⟨_, rfl⟩
  have M0 : Hid (MarkAt w ss marks0 W2) := Lib.hid (by
    have hb1 : Below w.heap.size w W1 := by rw [← hW1]; exact below_alloc (Below.refl _ _) _
    have hb2 : Below W1.heap.size W1 W2 := by rw [← hW2]; exact below_alloc (Below.refl _ _) _
    rw [hW1] at A0
    rw [hW2, hz1] at A1
    exact ⟨A0.later hb2, A1, below_trans hb1 hb2⟩)
  clear h hs A0 A1
  go_enter Try.func28, Try.ntmps28
  go_upto_region 2 with fail
  clear hW1 hW2
  go_wp2_with fail
  go_loopw [4, 5, 6] (fun kv _ _ wr => ∃ k : Nat, k ≤ 16 ∧ kv = .int .i64 (k : Int) ∧ Hid (MarkAt w ss (markU ss k) wr)) (fun kv _ _ _ => 16 - (intOf kv).toNat)
  case atStart => exact ⟨0, by omega, rfl, M0⟩
  case round =>
    obtain ⟨k, hk, rfl, HM⟩ := hrel
    clear M0
    by_cases hlt : k < 16
    · have hlti : (k : Int) < 16 := by omega
      have HIk := Lib.hid (HI.out k (by omega) wr HM.out.below)
      have HTk := Lib.hid fun w' hb => HT.out k (by omega) w' hb
      have HFk := Lib.hid (HF.out (k : Int))
      have H4k := Lib.hid (HF4.out (k : Int))
      have HL0 := Lib.hid (HML.out k)
      have HNX : Hid (markU ss (k + 1) = if liveB ss k then setAll (markU ss k) (inoAt ss (k : Int)).b else markU ss k) := Lib.hid rfl
      have HLV : Hid (liveB ss k = (decide ((inoAt ss (k : Int)).kind = 1) && takenB ss (k : Int))) := Lib.hid rfl
      generalize inoAt ss (k : Int) = x at HIk HFk H4k HNX HLV
      generalize takenB ss (k : Int) = tk at HTk HLV
      generalize liveB ss k = lv at HNX HLV
      obtain ⟨kd, sz, bl⟩ := x
      simp only at HFk H4k HNX HLV
      have HL4 : Hid (bl.length = 4) := H4k
      by_cases hkd : kd = 1
      · subst hkd
        cases tk with
        | false =>
          have HS : Hid (markU ss (k + 1) = markU ss k) := Lib.hid (by rw [HNX.out, HLV.out]; rfl)
          clear HNX HLV
          go_upto_region 6 with (first | (go_at_call 43; refine HIk.out.mono ?_; rintro e w1 ⟨rfl, hb⟩; have M1 := Lib.hid (HM.out.later hb); clear hb) | (refine store_ino rfl (.tmp 5) (.tmp 13) rfl rfl w1.heap.size ⟨1, sz, bl⟩ ino0 rfl rfl H4k.out rfl (atI_lit w1) ?_; intro w2 hA hB _; have hb := (below_alloc (Below.refl _ w1) _).trans hB; have M2 := Lib.hid (M1.out.later hb); have A2 := Lib.hid hA; clear hA hB hb))
          have hc0 := A2.out.cell0
          go_wp2_with (go_at_call 25; refine (HTk.out _ M2.out.below).mono ?_; rintro e w3 ⟨rfl, hb⟩; have M3 := Lib.hid (M2.out.later hb); clear hb)
          go_roundw
          case rel => exact ⟨k + 1, by omega, by go_num, by rw [HS.out]; exact M3⟩
          case measure => simp [intOf]; omega
        | true =>
          have HS : Hid (markU ss (k + 1) = setAll (markU ss k) bl) := Lib.hid (by rw [HNX.out, HLV.out]; rfl)
          clear HNX HLV
          go_upto_region 6 with (first | (go_at_call 43; refine HIk.out.mono ?_; rintro e w1 ⟨rfl, hb⟩; have M1 := Lib.hid (HM.out.later hb); clear hb) | (refine store_ino rfl (.tmp 5) (.tmp 13) rfl rfl w1.heap.size ⟨1, sz, bl⟩ ino0 rfl rfl H4k.out rfl (atI_lit w1) ?_; intro w2 hA hB _; have hb := (below_alloc (Below.refl _ w1) _).trans hB; have M2 := Lib.hid (M1.out.later hb); have A2 := Lib.hid hA; have HG : Hid (w.heap.size + 1 < w1.heap.size) := Lib.hid M1.out.row.lt; clear hA hB hb))
          have hc0 := A2.out.cell0
          go_wp2_with (go_at_call 25; refine (HTk.out _ M2.out.below).mono ?_; rintro e w3 ⟨rfl, hb⟩; have M3 := Lib.hid (M2.out.later hb); have A3 := Lib.hid (A2.out.later hb); clear hb)
          clear hc0
          obtain ⟨g, hg⟩ : ∃ g, w1.heap.size = g := ⟨_, rfl⟩
          rw [hg] at HG A3
          go_loopw [6] (fun jv wr => ∃ j : Nat, j ≤ 4 ∧ jv = .int .i64 (j : Int) ∧ Hid (MarkAt w ss (setAll (markU ss k) (bl.take j)) wr) ∧ Hid (AtI wr g ⟨1, sz, bl⟩)) (fun jv _ => 4 - (intOf jv).toNat)
          case atStart => exact ⟨0, by omega, rfl, M3, A3⟩
          case round =>
            obtain ⟨j, hj, rfl, HMj, HAj⟩ := hrel
            by_cases hltj : j < 4
            · have hltji : (j : Int) < 4 := by omega
              have hjl : j < bl.length := by rw [HL4.out]; exact hltj
              have hcb := HAj.out.cellb hjl
              have HZ := Lib.hid (setAll_take (l := markU ss k) hjl)
              have hz := HFk.out (bl.getD j 0) (by rw [show bl.getD j 0 = bl[j] by simp [List.getD, hjl]]; exact List.getElem_mem hjl)
              simp only at hcb
              obtain ⟨m, hm⟩ := Int.eq_ofNat_of_zero_le hz.1
              rw [hm] at hcb hz HZ
              have hm24 : m < 25 := by omega
              have hmi : (m : Int) < 25 := by omega
              have hcm := HMj.out.row.cell (k := m) (by rw [setAll_len, HL0.out]; exact hm24)
              have hfm := HMj.out.row.frozen m
              rw [hg]
              clear hz hm
              go_wp2_with fail
              go_roundw
              case rel => exact ⟨j + 1, by omega, by go_num, Lib.hid (by rw [HZ.out]; exact HMj.out.set m), Lib.hid (HAj.out.setOther (by have := HG.out; omega) _)⟩
              case measure => simp [intOf]; omega
            · obtain rfl : j = 4 := by omega
              go_wp2_with fail
              go_roundw
              case rel => exact ⟨k + 1, by omega, by go_num, Lib.hid (by rw [HS.out]; have := HMj.out; rw [List.take_of_length_le (by rw [HL4.out]; exact Nat.le_refl _)] at this; exact this)⟩
              case measure => simp [intOf]; omega
      · have hkb : (kd == 1) = false := beq_eq_false_iff_ne.2 hkd
        have HS : Hid (markU ss (k + 1) = markU ss k) := Lib.hid (by rw [HNX.out, HLV.out, decide_eq_false hkd]; rfl)
        clear HNX HLV hkd
        go_upto_region 6 with (first | (go_at_call 43; refine HIk.out.mono ?_; rintro e w1 ⟨rfl, hb⟩; have M1 := Lib.hid (HM.out.later hb); clear hb) | (refine store_ino rfl (.tmp 5) (.tmp 13) rfl rfl w1.heap.size ⟨kd, sz, bl⟩ ino0 rfl rfl H4k.out rfl (atI_lit w1) ?_; intro w2 hA hB _; have hb := (below_alloc (Below.refl _ w1) _).trans hB; have M2 := Lib.hid (M1.out.later hb); have A2 := Lib.hid hA; clear hA hB hb))
        have hc0 := A2.out.cell0
        go_wp2_with fail
        go_roundw
        case rel => exact ⟨k + 1, by omega, by go_num, by rw [HS.out]; exact M2⟩
        case measure => simp [intOf]; omega
    · obtain rfl : k = 16 := by omega
      have hc := HM.out.row.cell (k := 0) (by rw [HML.out]; omega)
      have hf := HM.out.row.frozen 0
      go_wp2_with (first | (refine load_m rfl (.tmp 3) rfl (w.heap.size + 1) rfl (marksOf ss) HMO.out (HM.out.set 0).row ?_) | (refine store_m rfl (.tmp 2) (.tmp 32) rfl rfl w.heap.size (marksOf ss) marks0 rfl rfl HMO.out (by decide) (HM.out.set 0).res ?_; intro w4 hA hB; have A4 := Lib.hid hA; have B4 := Lib.hid ((HM.out.set 0).below.trans hB); clear hA hB))
      exact ret_m rfl w.heap.size (marksOf ss) rfl HMO.out A4.out rfl ⟨rfl, B4.out⟩
end Go.Proofs.Ytpckdjnddoaffaa.al
/- What the reference's Blocks and Count of layer 10 give. -/
namespace Go.Proofs.Ytpckdjnddoaffaa.al
set_option maxRecDepth 100000
open Go.ChangeShapes Go.WideShapes Go.ChangeAt Go.RowKit
open Go.Proofs.Ytpckdjnddoaffaa.rows
open Go.Proofs.Ytpckdjnddoaffaa.sec
open Go.Proofs.Ytpckdjnddoaffaa.dsk (wf64)
open Go.Proofs.Ytpckdjnddoaffaa.ly
open Go.Proofs.Ytpckdjnddoaffaa.lk
set_option linter.unusedVariables false
set_option linter.unusedSimpArgs false

theorem elem_is : Elem 31 3 1 8 (.int .i64 0) := ⟨Try.underlying31, by kernel_rfl, by decide, by decide, by decide⟩
def blkB (ss : List (List Int)) (z : Int) : Bool := decide (0 ≤ z ∧ z ≤ ((frB ss).length : Int))
def ofNats (l : List Nat) : List Int := l.map fun b : Nat => (b : Int)
/- needs: cell_row frozen_row row_later setCell_heap row_alloc ld_cell run_store_mid wpList_buildTo build_yields built_wr fill_part step_build load_mid store_mid own_nil own_made ap_rd rd_one Own.rd Own.alloc wf64 Touch touch_setRow Touch.range Touch.below Touch.cell results_cell_row wpList_load_row wpList_store_row eql_yields neq_yields cut_piece field_trod calls_closure step_ap ap_rd3 own_later own_kept -/
/-- the z lowest free blocks, or none -/
def blkL (ss : List (List Int)) (z : Int) : List Int := if blkB ss z then ofNats ((frB ss).take z.toNat) else []
theorem ofNats_len (l : List Nat) : (ofNats l).length = l.length := by simp [ofNats]
theorem ofNats_snoc (l : List Nat) (b : Nat) : ofNats (l ++ [b]) = ofNats l ++ [(b : Int)] := by simp [ofNats]
theorem frU_next {ss : List (List Int)} (b : Nat) (u : Bool) (h : usedB ss b = u) : frU ss (b + 1) = if u then frU ss b else frU ss b ++ [b] := by rw [frU, h]
theorem blk_done {ss : List (List Int)} {z : Int} {b : Nat} (hb : b ≤ 25) (h : ((frU ss b).length : Int) = z) : blkB ss z = true ∧ blkL ss z = ofNats (frU ss b) := by
  have hp := frU_pre ss b (25 - b)
  rw [show b + (25 - b) = 25 by omega] at hp
  have hl := hp.length_le
  have h1 : blkB ss z = true := by
    rw [blkB, decide_eq_true_eq]
    refine ⟨by omega, ?_⟩
    unfold frB
    omega
  refine ⟨h1, ?_⟩
  rw [blkL, if_pos h1, show z.toNat = (frU ss b).length by omega]
  unfold frB
  rw [← List.prefix_iff_eq_take.1 hp]
theorem blk_not {ss : List (List Int)} {z : Int} (h : z < 0 ∨ ((frU ss 25).length : Int) < z) : blkB ss z = false ∧ blkL ss z = [] := by
  have h1 : blkB ss z = false := by
    rw [blkB, decide_eq_false_iff_not]
    unfold frB
    omega
  exact ⟨h1, by rw [blkL, h1]; rfl⟩
theorem i64s_snoc (l : List Int) (z : Int) : i64s l ++ [.int .i64 z] = i64s (l ++ [z]) := by simp [i64s]
set_option maxRecDepth 100000 in
set_option maxHeartbeats 3200000 in
theorem rblk_any (p : Option Addr) (n c : Nat) (ss : List (List Int)) (w : World) (h : Rd w 32 (.slice p n c) n (cellsOf ss)) (hs : Secs ss) (hn : n ≤ 100000) (z : Int) (hz : wf64 z) :
    Calls Try.prog 13 #[.slice p n c, .int .i64 z] w fun e w' => ∃ q m k, e = .returned (.tuple #[.slice q m k, .bool (blkB ss z)]) ∧ m = (blkL ss z).length ∧ Rd w' 1 (.slice q m k) m (i64s (blkL ss z)) ∧ Below w.heap.size w w' := by
  have HU := Lib.hid (rused_any p n c ss w h hs hn)
  have HML := Lib.hid (marksOf_len ss)
  have HMA := Lib.hid fun b hb => marksOf_at hs b hb
  have HD := Lib.hid fun (b : Nat) (hb : b ≤ 25) (hl : ((frU ss b).length : Int) = z) => blk_done hb hl
  have HNo := Lib.hid fun hl => blk_not (ss := ss) (z := z) hl
  obtain ⟨z1, z2⟩ := rows.wf_i64 hz
  generalize blkL ss z = L at *
  generalize blkB ss z = B at *
  generalize hmo : marksOf ss = mo at HU HML HMA
  clear hmo h hs hz
  go_enter Try.func13, Try.ntmps13
  go_wp2_with (first | (go_at_call 28; refine HU.out.mono ?_; rintro e w1 ⟨rfl, hb⟩; have B1 := Lib.hid hb; clear hb) | (refine store_m rfl (.tmp 7) (.tmp 10) rfl rfl w1.heap.size mo marks0 rfl rfl HML.out (by decide) (atM_lit w1) ?_; intro w2 hA hB; have hb := (below_alloc (Below.refl _ w1) _).trans hB; have B2 := Lib.hid (below_trans B1.out hb); have A2 := Lib.hid hA; have hgg := Lib.hid B1.out.size; clear hA hB hb))
  go_loopw [6, 8] (fun lv bv wr => ∃ (b : Nat) (q : Option Addr) (m k : Nat), 1 ≤ b ∧ b ≤ 25 ∧ bv = .int .i64 (b : Int) ∧ lv = .slice q m k ∧ m = (frU ss b).length ∧ ((m : Int) ≤ z ∨ (m = 0 ∧ z < 0)) ∧ Hid (Own wr w2.heap.size 3 1 (.slice q m k) m (i64s (ofNats (frU ss b)))) ∧ Hid (AtM wr w1.heap.size mo) ∧ Hid (Below w2.heap.size w2 wr)) (fun _ bv _ => 25 - (intOf bv).toNat)
  case atStart => exact ⟨1, none, 0, 0, by omega, by omega, rfl, rfl, by simp [frU, used0], by omega, Lib.hid (by simp [frU, used0, ofNats, i64s]; exact own_nil _ _ _ _), A2, Lib.hid (Below.refl _ _)⟩
  case round =>
    obtain ⟨b, q, m, k, hb1, hb2, rfl, rfl, hm, hmz, HO, HA, HB⟩ := hrel
    have HMm := Lib.hid hm
    have hfl := frU_len ss b
    rw [← hm] at hfl
    clear hm
    by_cases hlt : b ≤ 24
    · have hlti : (b : Int) ≤ 24 := by omega
      have hb1i : (1 : Int) ≤ b := by omega
      by_cases hmlt : (m : Int) < z
      · have hcb := HA.out.cell (k := b) (by rw [HML.out]; omega)
        rw [HMA.out b (by omega)] at hcb
        have HNX := Lib.hid fun u hu => frU_next (ss := ss) b u hu
        cases hu : usedB ss b with
        | true =>
          rw [hu] at hcb
          have HS := Lib.hid (HNX.out true hu)
          clear HNX hu
          go_wp2_with fail
          go_roundw
          case rel => exact ⟨b + 1, q, m, k, by omega, by omega, by go_num, rfl, by rw [HS.out]; exact HMm.out, hmz, by rw [HS.out]; exact HO, HA, HB⟩
          case measure => simp [intOf]; omega
        | false =>
          rw [hu] at hcb
          have HS := Lib.hid (HNX.out false hu)
          clear HNX hu
          go_wp2_with (at_builtin; refine ap_rd elem_is rfl (.tmp 25) (.tmp 27) rfl w2.heap.size _ m _ rfl (HO.out.alloc _) _ 1 [.int .i64 (b : Int)] rfl (rd_one _ _ 1 #[.int .i64 (b : Int)] rfl) (by simp [Value.oneCell']) (by omega) (by have := HB.out.size; simp; omega) ?_; intro pa ca wa ho hb; have HO2 := Lib.hid ho; have HBa := Lib.hid ((below_alloc HB.out _).trans hb); have HAa : Hid (AtM wa w1.heap.size mo) := Lib.hid ((hb.block _ A2.out.lt).trans (HA.out.later (below_alloc (Below.refl _ _) _))); clear ho hb)
          go_roundw
          case rel => exact ⟨b + 1, pa, m + 1, ca, by omega, by omega, by go_num, rfl, by rw [HS.out]; simp; exact HMm.out, by omega, by rw [HS.out]; simp only [Bool.false_eq_true, if_false]; rw [ofNats_snoc, ← i64s_snoc]; exact HO2, HAa, HBa⟩
          case measure => simp [intOf]; omega
      · have hmge : z ≤ (m : Int) := by omega
        by_cases hze : (m : Int) = z
        · have hD := HD.out b (by omega) (by rw [← HMm.out]; exact hze)
          obtain ⟨e1, e2⟩ := hD
          have E2 := Lib.hid e2
          subst e1
          clear e2
          subst hze
          clear hmz hmge
          go_wp2_with fail
          go_ret2
          exact ⟨q, m, k, rfl, by rw [E2.out, ofNats_len]; exact HMm.out, by rw [E2.out]; exact HO.out.rd, below_trans B2.out HB.out⟩
        · have hm0 : m = 0 := by omega
          have hzn : z < 0 := by omega
          obtain ⟨e1, e2⟩ := HNo.out (Or.inl hzn)
          have E2 := Lib.hid e2
          subst e1
          clear e2
          have hne : ((m : Int) != z) = true := by simpa using hze
          clear hmz hze
          go_wp2_with fail
          go_ret2
          exact ⟨none, 0, 0, rfl, by rw [E2.out]; rfl, by rw [E2.out]; exact rd_nil _ 1, below_trans B2.out HB.out⟩
    · obtain rfl : b = 25 := by omega
      by_cases hze : (m : Int) = z
      · obtain ⟨e1, e2⟩ := HD.out 25 (by omega) (by rw [← HMm.out]; exact hze)
        have E2 := Lib.hid e2
        subst e1
        clear e2
        subst hze
        clear hmz
        go_wp2_with fail
        go_ret2
        exact ⟨q, m, k, rfl, by rw [E2.out, ofNats_len]; exact HMm.out, by rw [E2.out]; exact HO.out.rd, below_trans B2.out HB.out⟩
      · obtain ⟨e1, e2⟩ := HNo.out (by rw [← HMm.out]; omega)
        have E2 := Lib.hid e2
        subst e1
        clear e2
        have hne : ((m : Int) != z) = true := by simpa using hze
        clear hmz hze
        go_wp2_with fail
        go_ret2
        exact ⟨none, 0, 0, rfl, by rw [E2.out]; rfl, by rw [E2.out]; exact rd_nil _ 1, below_trans B2.out HB.out⟩
def cntV (ss : List (List Int)) : Value := .tuple #[.int .i64 (cntI ss : Int), .int .i64 (cntE ss : Int), .int .i64 (cntB ss : Int)]
theorem cntU_next {p : Nat → Bool} {k : Nat} {b : Bool} (h : p k = b) : cntU p (k + 1) = if b then cntU p k + 1 else cntU p k := by rw [cntU, h]
set_option maxRecDepth 100000 in
set_option maxHeartbeats 3200000 in
theorem rcnt_any (p : Option Addr) (n c : Nat) (ss : List (List Int)) (w : World) (h : Rd w 32 (.slice p n c) n (cellsOf ss)) (hs : Secs ss) (hn : n ≤ 100000) :
    Calls Try.prog 15 #[.slice p n c] w fun e w' => e = .returned (cntV ss) ∧ Below w.heap.size w w' := by
  have HT := Lib.hid fun (k : Nat) (hk : k ≤ 16) w' (hb : Below w.heap.size w w') => rtaken_any p n c ss w' (h.later hb) hs hn (k : Int) (WalkArith.wf_i64 (by omega))
  have HE := Lib.hid fun (k : Nat) (hk : k ≤ 24) w' (hb : Below w.heap.size w w') => rent_any p n c ss w' (h.later hb) hs hn (k : Int) (WalkArith.wf_i64 (by omega))
  have HU := Lib.hid fun w' (hb : Below w.heap.size w w') => rused_any p n c ss w' (h.later hb) hs hn
  have HML := Lib.hid (marksOf_len ss)
  have HMA := Lib.hid fun b hb => marksOf_at hs b hb
  clear h hs
  generalize hmo : marksOf ss = mo at HU HML HMA
  clear hmo
  go_enter Try.func15, Try.ntmps15
  go_wp2_with fail
  go_loopw [5, 8] (fun av kv wr => ∃ k a : Nat, k ≤ 16 ∧ a ≤ k ∧ kv = .int .i64 (k : Int) ∧ av = .int .i64 (a : Int) ∧ Hid (a = cntU (fun n => takenB ss (n : Int)) k) ∧ Hid (Below w.heap.size w wr)) (fun _ kv _ => 16 - (intOf kv).toNat)
  case atStart => exact ⟨0, 0, by omega, by omega, rfl, rfl, Lib.hid rfl, Lib.hid (Below.refl _ _)⟩
  case round =>
    obtain ⟨k, a, hk, hak, rfl, rfl, HA, HB⟩ := hrel
    by_cases hlt : k < 16
    · have hlti : (k : Int) < 16 := by omega
      have hai : (a : Int) ≤ 16 := by omega
      have HTk := Lib.hid (HT.out k (by omega) wr HB.out)
      have HNX := Lib.hid fun b hb => cntU_next (p := fun n => takenB ss (n : Int)) (k := k) (b := b) hb
      cases ht : takenB ss (k : Int) with
      | true =>
        rw [ht] at HTk
        have HS := Lib.hid (HNX.out true ht)
        clear HNX ht
        go_wp2_with (go_at_call 25; refine HTk.out.mono ?_; rintro e w1 ⟨rfl, hb⟩; have B1 := Lib.hid (below_trans HB.out hb); clear hb)
        go_roundw
        case rel => exact ⟨k + 1, a + 1, by omega, by omega, by go_num, by go_num, Lib.hid (by rw [HS.out, HA.out]; rfl), B1⟩
        case measure => simp [intOf]; omega
      | false =>
        rw [ht] at HTk
        have HS := Lib.hid (HNX.out false ht)
        clear HNX ht
        go_wp2_with (go_at_call 25; refine HTk.out.mono ?_; rintro e w1 ⟨rfl, hb⟩; have B1 := Lib.hid (below_trans HB.out hb); clear hb)
        go_roundw
        case rel => exact ⟨k + 1, a, by omega, by omega, by go_num, rfl, Lib.hid (by rw [HS.out, HA.out]; rfl), B1⟩
        case measure => simp [intOf]; omega
    · have hge : (16 : Int) ≤ k := by omega
      have hai : (a : Int) ≤ 16 := by omega
      have HAI : Hid (a = cntI ss) := Lib.hid (by have e : k = 16 := by omega
                                                  have h := HA.out
                                                  rw [e] at h
                                                  exact h)
      obtain ⟨wa, hwa⟩ : ∃ wa, wr = wa := ⟨_, rfl⟩
      rw [hwa] at HB
      rw [hwa]
      have HBA := HB
      clear HA HB hwa
      go_wp2_with fail
      go_loopw [6, 9, 10] (fun bv kv _ wr => ∃ k b : Nat, k ≤ 24 ∧ b ≤ k ∧ kv = .int .i64 (k : Int) ∧ bv = .int .i64 (b : Int) ∧ Hid (b = cntU (fun k => (entAt ss (k : Int)).used) k) ∧ Hid (Below w.heap.size w wr)) (fun _ kv _ _ => 24 - (intOf kv).toNat)
      case atStart => exact ⟨0, 0, by omega, by omega, rfl, rfl, Lib.hid rfl, HBA⟩
      case round =>
        obtain ⟨k, b, hk, hbk, rfl, rfl, HA, HB⟩ := hrel
        by_cases hlt : k < 24
        · have hlti : (k : Int) < 24 := by omega
          have hbi : (b : Int) ≤ 24 := by omega
          have HEk := Lib.hid (HE.out k (by omega) wr HB.out)
          have HNX := Lib.hid fun u hu => cntU_next (p := fun k => (entAt ss (k : Int)).used) (k := k) (b := u) hu
          generalize entAt ss (k : Int) = x at HEk HNX
          obtain ⟨u, pa, nm, tg⟩ := x
          cases u with
          | true =>
            have HS := Lib.hid (HNX.out true rfl)
            clear HNX
            go_wp2_with (go_at_call 26; refine HEk.out.mono ?_; rintro e w1 ⟨rfl, hb⟩; have B1 := Lib.hid (below_trans HB.out hb); clear hb)
            go_roundw
            case rel => exact ⟨k + 1, b + 1, by omega, by omega, by go_num, by go_num, Lib.hid (by rw [HS.out, HA.out]; rfl), Lib.hid (below_alloc B1.out _)⟩
            case measure => simp [intOf]; omega
          | false =>
            have HS := Lib.hid (HNX.out false rfl)
            clear HNX
            go_wp2_with (go_at_call 26; refine HEk.out.mono ?_; rintro e w1 ⟨rfl, hb⟩; have B1 := Lib.hid (below_trans HB.out hb); clear hb)
            go_roundw
            case rel => exact ⟨k + 1, b, by omega, by omega, by go_num, rfl, Lib.hid (by rw [HS.out, HA.out]; rfl), Lib.hid (below_alloc B1.out _)⟩
            case measure => simp [intOf]; omega
        · have hge2 : (24 : Int) ≤ k := by omega
          have HAE : Hid (b = cntE ss) := Lib.hid (by have e : k = 24 := by omega
                                                      have h := HA.out
                                                      rw [e] at h
                                                      exact h)
          obtain ⟨wb, hwb⟩ : ∃ wb, wr = wb := ⟨_, rfl⟩
          rw [hwb] at HB
          rw [hwb]
          have HBB := HB
          clear HA HB hwb
          go_wp2_with (first | (go_at_call 28; refine (HU.out _ HBB.out).mono ?_; rintro e w1 ⟨rfl, hb⟩; have B1 := Lib.hid (below_trans HBB.out hb); clear hb) | (refine store_m rfl (.tmp 11) (.tmp 34) rfl rfl w1.heap.size mo marks0 rfl rfl HML.out (by decide) (atM_lit w1) ?_; intro w2 hA hB; have hb := (below_alloc (Below.refl _ w1) _).trans hB; have B2 := Lib.hid (below_trans B1.out hb); have A2 := Lib.hid hA; clear hA hB hb))
          go_loopw [7, 12] (fun cv iv wr => ∃ i c : Nat, 1 ≤ i ∧ i ≤ 25 ∧ c < i ∧ iv = .int .i64 (i : Int) ∧ cv = .int .i64 (c : Int) ∧ Hid (c = cntBU ss (i - 1)) ∧ wr = w2) (fun _ iv _ => 25 - (intOf iv).toNat)
          case atStart => exact ⟨1, 0, by omega, by omega, by omega, rfl, rfl, Lib.hid rfl, rfl⟩
          case round =>
            obtain ⟨i, c, hi1, hi2, hci, rfl, rfl, HC, rfl⟩ := hrel
            have hcl : (c : Int) ≤ 25 := by omega
            by_cases hlt : i ≤ 24
            · have hlti : (i : Int) ≤ 24 := by omega
              have hi1i : (1 : Int) ≤ i := by omega
              have hcb := A2.out.cell (k := i) (by rw [HML.out]; omega)
              rw [HMA.out i (by omega)] at hcb
              have HNX : Hid (∀ u, usedB ss i = u → cntBU ss i = if u then cntBU ss (i - 1) + 1 else cntBU ss (i - 1)) := Lib.hid fun u hu => by
                have h := cntU_next (p := fun i => usedB ss (i + 1)) (k := i - 1) (b := u) (by rw [show i - 1 + 1 = i by omega]; exact hu)
                rw [show i - 1 + 1 = i by omega] at h
                exact h
              cases hu : usedB ss i with
              | true =>
                rw [hu] at hcb
                have HS := Lib.hid (HNX.out true hu)
                clear HNX hu
                go_wp2_with fail
                go_roundw
                case rel => exact ⟨i + 1, c + 1, by omega, by omega, by omega, by go_num, by go_num, Lib.hid (by rw [Nat.add_sub_cancel, HS.out, HC.out]; rfl), trivial⟩
                case measure => simp [intOf]; omega
              | false =>
                rw [hu] at hcb
                have HS := Lib.hid (HNX.out false hu)
                clear HNX hu
                go_wp2_with fail
                go_roundw
                case rel => exact ⟨i + 1, c, by omega, by omega, by omega, by go_num, rfl, Lib.hid (by rw [Nat.add_sub_cancel, HS.out, HC.out]; rfl), trivial⟩
                case measure => simp [intOf]; omega
            · obtain rfl : i = 25 := by omega
              have HAC : Hid (c = cntB ss) := HC
              go_wp2_with fail
              go_ret3
              exact ⟨by rw [cntV, ← HAI.out, ← HAE.out, ← HAC.out]; rfl, B2.out⟩
end Go.Proofs.Ytpckdjnddoaffaa.al
/- knows of layer 10, over what the code's functions give. -/
namespace Go.Proofs.Ytpckdjnddoaffaa.al
set_option maxRecDepth 100000
open Go.ChangeShapes Go.WideShapes Go.ChangeAt Go.RowKit
open Go.Proofs.Ytpckdjnddoaffaa.rows
open Go.Proofs.Ytpckdjnddoaffaa.sec
open Go.Proofs.Ytpckdjnddoaffaa.dsk (wf64 Wr Wr.ok Wr.c Wr.c_len wrsC elem_wrs)
open Go.Proofs.Ytpckdjnddoaffaa.ly
open Go.Proofs.Ytpckdjnddoaffaa.lk
set_option linter.unusedVariables false
set_option linter.unusedSimpArgs false

/-- what is asked of the code -/
structure AllocIs : Prop where
  ino : ∀ (w : World) (d : Value) (ss : List (List Int)), Dk w d ss → Calls Try.prog 8 #[d] w fun e w' => e = .returned (optV (frI ss)) ∧ Below w.heap.size w w'
  slot : ∀ (w : World) (d : Value) (ss : List (List Int)), Dk w d ss → Calls Try.prog 10 #[d] w fun e w' => e = .returned (optV (frE ss)) ∧ Below w.heap.size w w'
  blocks : ∀ (w : World) (d : Value) (ss : List (List Int)) (z : Int), Dk w d ss → wf64 z → Calls Try.prog 12 #[d, .int .i64 z] w fun e w' => ∃ q m k, e = .returned (.tuple #[.slice q m k, .bool (blkB ss z)]) ∧ m = (blkL ss z).length ∧ Rd w' 1 (.slice q m k) m (i64s (blkL ss z)) ∧ Below w.heap.size w w'
  count : ∀ (w : World) (d : Value) (ss : List (List Int)), Dk w d ss → Calls Try.prog 14 #[d] w fun e w' => e = .returned (cntV ss) ∧ Below w.heap.size w w'
theorem rd_two (w : World) (e : TypeId) (a b : Value) : Rd (w.alloc (.cells #[a, b] e)) 1 (.slice (some ⟨w.heap.size, 0, none⟩) 2 2) 2 [a, b] := by
  refine Or.inr ⟨w.heap.size, 0, 2, rfl, by omega, Nat.le_refl _, by unfold maxLen; omega, by simp, by rfl, fun i u hi => ?_⟩
  rw [World.cell?_alloc_new, Nat.zero_add]
  simpa using hi
def knE : List (List Int) := withL emptyImg []
theorem knE_ino : frI knE = some 1 := by kernel_rfl
theorem knE_slot : frE knE = some 0 := by kernel_rfl
theorem knE_blkB : blkB knE 2 = true := by decide +kernel
theorem knE_blkL : blkL knE 2 = [1, 2] := by kernel_rfl
theorem knE_cnt : cntI knE = 1 ∧ cntE knE = 0 ∧ cntB knE = 0 := ⟨by kernel_rfl, by kernel_rfl, by kernel_rfl⟩
set_option maxRecDepth 100000 in
set_option maxHeartbeats 3200000 in
theorem knows_of (C : AllocIs) (w : World) : Calls Try.prog 5 #[] w fun e w' => e = .returned (.bool true) ∧ Below w.heap.size w w' := by
  have K1 := Lib.hid fun w' d (hd : Dk w' d knE) => by
    have h := C.ino w' d knE hd
    rw [knE_ino] at h
    exact (show Calls Try.prog 8 #[d] w' fun e w'' => e = .returned (.tuple #[.int .i64 1, .bool true]) ∧ Below w'.heap.size w' w'' from h)
  have K2 := Lib.hid fun w' d (hd : Dk w' d knE) => by
    have h := C.slot w' d knE hd
    rw [knE_slot] at h
    exact (show Calls Try.prog 10 #[d] w' fun e w'' => e = .returned (.tuple #[.int .i64 0, .bool true]) ∧ Below w'.heap.size w' w'' from h)
  have K3 := Lib.hid fun w' d (hd : Dk w' d knE) => by
    have h := C.blocks w' d knE 2 hd (WalkArith.wf_i64 (by omega))
    rw [knE_blkB, knE_blkL] at h
    exact h
  have K4 := Lib.hid fun w' d (hd : Dk w' d knE) => by
    have h := C.count w' d knE hd
    unfold cntV at h
    rw [knE_cnt.1, knE_cnt.2.1, knE_cnt.2.2] at h
    exact (show Calls Try.prog 14 #[d] w' fun e w'' => e = .returned (.tuple #[.int .i64 1, .int .i64 0, .int .i64 0]) ∧ Below w'.heap.size w' w'' from h)
  clear C
  go_enter Try.func5, Try.ntmps5
  go_wp2_with (first
    | (go_at_call 20; refine (rempty_any _).mono ?_; rintro e w1 ⟨p1, c1, rfl, hr, hb⟩; have B1 := Lib.hid hb; have R1 := Lib.hid hr; clear hb hr)
    | (go_at_call 6; refine (disk_any p1 65 c1 emptyImg none 0 0 [] _ R1.out emptyImg_secs (by omega) (rd_nil _ 36) (by simp) (by omega)).mono ?_; rintro e w2 ⟨d, rfl, hd, hb⟩; have B2 := Lib.hid (below_trans B1.out hb); have D2 : Hid (Dk w2 d knE) := Lib.hid hd; clear hb hd)
    | (go_at_call 8; refine (K1.out _ _ D2.out).mono ?_; rintro e w3 ⟨rfl, hb⟩; have B3 := Lib.hid (below_trans B2.out hb); have D3 := Lib.hid (D2.out.later hb); clear hb)
    | (go_at_call 10; refine (K2.out _ _ D3.out).mono ?_; rintro e w4 ⟨rfl, hb⟩; have B4 := Lib.hid (below_trans B3.out hb); have D4 := Lib.hid (D3.out.later hb); clear hb)
    | (go_at_call 12; refine (K3.out _ _ D4.out).mono ?_; rintro e w5 ⟨q5, m5, k5, rfl, hm5, hr, hb⟩; obtain rfl : m5 = 2 := hm5; have B5 := Lib.hid (below_trans B4.out hb); have D5 := Lib.hid (D4.out.later hb); have R5 := Lib.hid hr; clear hb hr)
    | (go_at_call 14; refine (K4.out _ _ D5.out).mono ?_; rintro e w6 ⟨rfl, hb⟩; have B6 := Lib.hid (below_trans B5.out hb); have R6 := Lib.hid (R5.out.later hb); clear hb)
    | (go_at_call 16; refine (ints_any _ _ 2 _ _ [1, 2] _ (R6.out.later (below_alloc (Below.refl _ _) _)) (rd_two _ _ _ _) (by omega)).mono ?_; rintro e w7 ⟨rfl, hb⟩; have B7 := Lib.hid (below_trans (below_alloc B6.out _) hb); clear hb))
  go_ret
  exact ⟨rfl, B7.out⟩
end Go.Proofs.Ytpckdjnddoaffaa.al
/- AllocTells' walk, over what the code's functions give. -/
namespace Go.Proofs.Ytpckdjnddoaffaa.al
set_option maxRecDepth 100000
open Go.ChangeShapes Go.WideShapes Go.ChangeAt Go.RowKit
open Go.Proofs.Ytpckdjnddoaffaa.rows
open Go.Proofs.Ytpckdjnddoaffaa.sec
open Go.Proofs.Ytpckdjnddoaffaa.dsk (wf64 Wr Wr.ok Wr.c Wr.c_len wrsC)
open Go.Proofs.Ytpckdjnddoaffaa.ly
open Go.Proofs.Ytpckdjnddoaffaa.lk
set_option linter.unusedVariables false
set_option linter.unusedSimpArgs false

theorem wl_secs {ss : List (List Int)} {ws : List Wr} (hs : Secs ss) (hw : ∀ x ∈ ws, x.ok) : Secs (withL ss ws) := by
  unfold withL
  split
  · exact over_secs hs hw _ (Nat.le_refl _)
  · intro s h; cases h
theorem wl_len (ss : List (List Int)) (ws : List Wr) : (withL ss ws).length ≤ 65 := by
  unfold withL
  split
  · rw [over_len ss ws _ (Nat.le_refl _)]; omega
  · exact Nat.zero_le _
theorem blkL_len (ss : List (List Int)) (z : Int) : (blkL ss z).length ≤ 1000 := by
  have h := (frB_len ss).1
  unfold blkL
  split
  · rw [ofNats_len, List.length_take]; omega
  · simp
set_option maxRecDepth 100000 in
set_option maxHeartbeats 3200000 in
theorem tells_of (C : AllocIs)
    (p : Option Addr) (n c : Nat) (ss : List (List Int)) (p2 : Option Addr) (m c2 : Nat) (ws : List Wr) (z : Int) (hz : wf64 z) (w : World) (h1 : Rd w 32 (.slice p n c) n (cellsOf ss)) (hn : n ≤ maxLen) (hs : Secs ss)
    (h2 : Rd w 36 (.slice p2 m c2) m (wrsC ws)) (hm : m ≤ maxLen) (hok : ∀ x ∈ ws, x.ok) :
    Calls Try.prog 3 #[.slice p n c, .slice p2 m c2, .int .i64 z] w fun e w' => e = .returned (.bool true) ∧ Below w.heap.size w w' := by
  have HK := Lib.hid (knows_of C)
  have hn9 : (n : Int) ≤ 9223372036854775807 := by unfold maxLen at hn; omega
  have hm9 : (m : Int) ≤ 9223372036854775807 := by unfold maxLen at hm; omega
  by_cases hbig : 200 < n ∨ 40 < m
  · have h3 : 200 < n ∨ (n ≤ 200 ∧ 40 < m) := by omega
    clear h1 h2 hbig hs hok
    rcases h3 with h | ⟨h, h'⟩
    all_goals
      first | (have j1 : (200 : Int) < n := by omega) | (have j1 : (n : Int) ≤ 200 := by omega)
      first | (have j2 : (40 : Int) < m := by omega) | skip
      clear hn hm
      go_enter Try.func3, Try.ntmps3
      go_wp2_with (go_at_call 5; refine (HK.out _).mono ?_; rintro e w2 ⟨rfl, hb2⟩)
      go_ret
      exact ⟨rfl, hb2⟩
  · have j1 : (n : Int) ≤ 200 := by omega
    have j2 : (m : Int) ≤ 40 := by omega
    have HD := Lib.hid fun w' (hb : Below w.heap.size w w') => disk_any p n c ss p2 m c2 ws w' (h1.later hb) hs (by omega) (h2.later hb) hok (by omega)
    have HW := Lib.hid fun w' (hb : Below w.heap.size w w') => with_any p n c ss p2 m c2 ws w' (h1.later hb) hs (by omega) (h2.later hb) hok (by omega)
    have HS := Lib.hid (wl_secs hs hok)
    have HL := Lib.hid (wl_len ss ws)
    generalize withL ss ws = l at *
    have HZ := Lib.hid hz
    have HC := Lib.hid C
    have hl9 : l.length ≤ 100000 := by have := HL.out; omega
    have C1 := Lib.hid fun w' d (hd : Dk w' d l) => HC.out.ino w' d l hd
    have C2 := Lib.hid fun w' d (hd : Dk w' d l) => HC.out.slot w' d l hd
    have C3 := Lib.hid fun w' d (hd : Dk w' d l) => HC.out.blocks w' d l z hd HZ.out
    have C4 := Lib.hid fun w' d (hd : Dk w' d l) => HC.out.count w' d l hd
    have R1 := Lib.hid fun w' q c (hr : Rd w' 32 (.slice q l.length c) l.length (cellsOf l)) => rfri_any q l.length c l w' hr HS.out hl9
    have R2 := Lib.hid fun w' q c (hr : Rd w' 32 (.slice q l.length c) l.length (cellsOf l)) => rfre_any q l.length c l w' hr HS.out hl9
    have R3 := Lib.hid fun w' q c (hr : Rd w' 32 (.slice q l.length c) l.length (cellsOf l)) => rblk_any q l.length c l w' hr HS.out hl9 z HZ.out
    have R4 := Lib.hid fun w' q c (hr : Rd w' 32 (.slice q l.length c) l.length (cellsOf l)) => rcnt_any q l.length c l w' hr HS.out hl9
    have HBL := Lib.hid (blkL_len l z)
    unfold optV at C1 C2 R1 R2
    unfold cntV at C4 R4
    generalize (((frI l).getD 0 : Nat) : Int) = x1 at *
    generalize (frI l).isSome = b1 at *
    generalize (((frE l).getD 0 : Nat) : Int) = x2 at *
    generalize (frE l).isSome = b2 at *
    generalize blkB l z = b3 at *
    generalize blkL l z = L3 at *
    generalize (cntI l : Int) = x4 at *
    generalize (cntE l : Int) = x5 at *
    generalize (cntB l : Int) = x6 at *
    clear h1 h2 hbig hs hok hn hm C hz hl9
    go_enter Try.func3, Try.ntmps3
    go_wp2_with (first
      | (go_at_call 5; refine (HK.out _).mono ?_; rintro e w1 ⟨rfl, hb⟩; have B1 := Lib.hid hb; clear hb)
      | (go_at_call 6; refine (HD.out _ B1.out).mono ?_; rintro e w2 ⟨d, rfl, hd, hb⟩; have B2 := Lib.hid (below_trans B1.out hb); have D2 := Lib.hid hd; clear hb hd)
      | (go_at_call 7; refine (HW.out _ B2.out).mono ?_; rintro e w3 ⟨q, cq, rfl, hr, hb⟩; have B3 := Lib.hid (below_trans B2.out hb); have D3 := Lib.hid (D2.out.later hb); have Q3 := Lib.hid hr; clear hb hr)
      | (go_at_call 8; refine (C1.out _ _ D3.out).mono ?_; rintro e w4 ⟨rfl, hb⟩; have B4 := Lib.hid (below_trans B3.out hb); have D4 := Lib.hid (D3.out.later hb); have Q4 := Lib.hid (Q3.out.later hb); clear hb)
      | (go_at_call 9; refine (R1.out _ _ _ Q4.out).mono ?_; rintro e w5 ⟨rfl, hb⟩; have B5 := Lib.hid (below_trans B4.out hb); have D5 := Lib.hid (D4.out.later hb); have Q5 := Lib.hid (Q4.out.later hb); clear hb)
      | (go_at_call 10; refine (C2.out _ _ D5.out).mono ?_; rintro e w6 ⟨rfl, hb⟩; have B6 := Lib.hid (below_trans B5.out hb); have D6 := Lib.hid (D5.out.later hb); have Q6 := Lib.hid (Q5.out.later hb); clear hb)
      | (go_at_call 11; refine (R2.out _ _ _ Q6.out).mono ?_; rintro e w7 ⟨rfl, hb⟩; have B7 := Lib.hid (below_trans B6.out hb); have D7 := Lib.hid (D6.out.later hb); have Q7 := Lib.hid (Q6.out.later hb); clear hb)
      | (go_at_call 12; refine (C3.out _ _ D7.out).mono ?_; rintro e w8 ⟨q8, m8, k8, rfl, hm8, hr8, hb⟩; have B8 := Lib.hid (below_trans B7.out hb); have D8 := Lib.hid (D7.out.later hb); have Q8 := Lib.hid (Q7.out.later hb); have M8 := Lib.hid hm8; have I8 := Lib.hid hr8; clear hb hm8 hr8)
      | (go_at_call 13; refine (R3.out _ _ _ Q8.out).mono ?_; rintro e w9 ⟨q9, m9, k9, rfl, hm9, hr9, hb⟩; obtain rfl : m9 = m8 := hm9.trans M8.out.symm; have B9 := Lib.hid (below_trans B8.out hb); have D9 := Lib.hid (D8.out.later hb); have Q9 := Lib.hid (Q8.out.later hb); have I89 := Lib.hid (I8.out.later hb); have I9 := Lib.hid hr9; clear hb hm9 hr9)
      | (go_at_call 14; refine (C4.out _ _ D9.out).mono ?_; rintro e w10 ⟨rfl, hb⟩; have B10 := Lib.hid (below_trans B9.out hb); have Q10 := Lib.hid (Q9.out.later hb); have I810 := Lib.hid (I89.out.later hb); have I910 := Lib.hid (I9.out.later hb); clear hb)
      | (go_at_call 15; refine (R4.out _ _ _ Q10.out).mono ?_; rintro e w11 ⟨rfl, hb⟩; have B11 := Lib.hid (below_trans B10.out hb); have I811 := Lib.hid (I810.out.later hb); have I911 := Lib.hid (I910.out.later hb); clear hb)
      | (go_at_call 16; refine (ints_any _ _ m9 _ _ L3 _ I811.out I911.out (by rw [M8.out]; exact HBL.out)).mono ?_; rintro e w12 ⟨rfl, hb⟩; have B12 := Lib.hid (below_trans B11.out hb); clear hb))
    go_ret
    exact ⟨rfl, B12.out⟩
end Go.Proofs.Ytpckdjnddoaffaa.al
/- What AllocFree's helper owned gives, over what the code's functions give; the law's facts. -/
namespace Go.Proofs.Ytpckdjnddoaffaa.al
set_option maxRecDepth 100000
open Go.ChangeShapes Go.WideShapes Go.ChangeAt Go.RowKit
open Go.Proofs.Ytpckdjnddoaffaa.rows
open Go.Proofs.Ytpckdjnddoaffaa.sec
open Go.Proofs.Ytpckdjnddoaffaa.dsk (wf64)
open Go.Proofs.Ytpckdjnddoaffaa.ly
open Go.Proofs.Ytpckdjnddoaffaa.lk
set_option linter.unusedVariables false
set_option linter.unusedSimpArgs false

theorem ino_plain {ss : List (List Int)} (hs : Secs ss) (i : Int) (h : (inoAt ss i).kind ≠ 1) : ∀ z ∈ (inoAt ss i).b, z = 0 := by
  have f0 : ∀ z ∈ ino0.b, z = 0 := fun z hz => by simp [ino0] at hz; exact hz
  unfold inoAt at h ⊢
  split
  · rename_i hin
    rw [if_pos hin] at h
    rw [inoOfV] at h ⊢
    split
    · rename_i hb
      rw [if_pos hb] at h
      rw [inoOfB, Bool.and_eq_true] at hb
      have hf := right_fine (inoOf_four (secAt_sec hs (1 + i))) hb.1
      have hr := hb.1
      have h02 : (inoOf (secAt ss (1 + i))).kind = 0 ∨ (inoOf (secAt ss (1 + i))).kind = 2 := by have := hf.k0; have := hf.k1; omega
      rw [rightI_plain h02, Bool.and_eq_true, beq_iff_eq, beq_iff_eq] at hr
      intro z hz
      rw [hr.2] at hz
      simpa using hz
    · exact f0
  · exact f0
end Go.Proofs.Ytpckdjnddoaffaa.al
/- The marks that the code's named and filled make: what they are. -/
namespace Go.Proofs.Ytpckdjnddoaffaa.al
set_option maxRecDepth 100000
open Go.ChangeShapes Go.WideShapes Go.ChangeAt Go.RowKit
open Go.Proofs.Ytpckdjnddoaffaa.rows
open Go.Proofs.Ytpckdjnddoaffaa.sec
open Go.Proofs.Ytpckdjnddoaffaa.dsk (wf64)
open Go.Proofs.Ytpckdjnddoaffaa.ly
open Go.Proofs.Ytpckdjnddoaffaa.lk
set_option linter.unusedVariables false
set_option linter.unusedSimpArgs false

theorem ent0_rightA : rightE ent0 = true := by decide +kernel
theorem ent_rightA (ss : List (List Int)) (k : Int) : rightE (entAt ss k) = true := by
  unfold entAt
  split
  · unfold entOfV
    split
    · rename_i h
      rw [entOfB, Bool.and_eq_true] at h
      exact h.1
    · exact ent0_rightA
  · exact ent0_rightA
theorem ent_tgt {ss : List (List Int)} {k : Int} (h : (entAt ss k).used = true) : 1 ≤ (entAt ss k).target ∧ (entAt ss k).target < 16 := by
  have hr := ent_rightA ss k
  rw [rightE_used h] at hr
  simp only [Bool.and_eq_true, decide_eq_true_eq] at hr
  exact ⟨hr.1.1.2, hr.1.2⟩
/-- the entries that are used, of the first k -/
def eU (ss : List (List Int)) : Nat → List Bool
  | 0 => List.replicate 24 false
  | k + 1 => if (entAt ss (k : Int)).used then (eU ss k).set k true else eU ss k
/-- the inodes that the first k entries name, and the root -/
def iU (ss : List (List Int)) : Nat → List Bool
  | 0 => true :: List.replicate 15 false
  | k + 1 => if (entAt ss (k : Int)).used then (iU ss k).set (entAt ss (k : Int)).target.toNat true else iU ss k
/-- the blocks of the inodes that are taken, of the first n -/
def bU (ss : List (List Int)) : Nat → List Bool
  | 0 => marks0
  | n + 1 => if takenB ss (n : Int) then setAll (bU ss n) (inoAt ss (n : Int)).b else bU ss n
theorem eU_len (ss : List (List Int)) : ∀ k, (eU ss k).length = 24
  | 0 => by simp [eU]
  | k + 1 => by
    rw [eU]
    split
    · rw [List.length_set, eU_len ss k]
    · exact eU_len ss k
theorem iU_len (ss : List (List Int)) : ∀ k, (iU ss k).length = 16
  | 0 => by simp [iU]
  | k + 1 => by
    rw [iU]
    split
    · rw [List.length_set, iU_len ss k]
    · exact iU_len ss k
theorem bU_len (ss : List (List Int)) : ∀ n, (bU ss n).length = 25
  | 0 => by simp [bU, marks0]
  | n + 1 => by
    rw [bU]
    split
    · rw [setAll_len, bU_len ss n]
    · exact bU_len ss n
theorem getD_set {l : List Bool} {j k : Nat} (hj : j < l.length) : (l.set k true).getD j false = (l.getD j false || decide (j = k)) := by
  by_cases e : j = k
  · subst e; simp [List.getD, hj]
  · have e2 : k ≠ j := fun h => e h.symm
    simp [List.getD, List.getElem?_set, e2, e]
theorem eU_at (ss : List (List Int)) (j : Nat) (hj : j < 24) : ∀ k, (eU ss k).getD j false = (decide (j < k) && (entAt ss (j : Int)).used)
  | 0 => by rw [eU, List.getD, List.getElem?_replicate, if_pos hj]; simp
  | k + 1 => by
    rw [eU]
    by_cases e : j = k
    · subst e
      cases hu : (entAt ss (j : Int)).used with
      | true => rw [if_pos rfl, getD_set (by rw [eU_len]; exact hj)]; simp
      | false => rw [if_neg (by decide), eU_at ss j hj j, hu]; simp
    · have h1 : decide (j < k + 1) = decide (j < k) := decide_eq_decide.2 (by omega)
      rw [h1]
      cases hu : (entAt ss (k : Int)).used with
      | true => rw [if_pos rfl, getD_set (by rw [eU_len]; exact hj), eU_at ss j hj k, decide_eq_false e, Bool.or_false]
      | false => rw [if_neg (by decide), eU_at ss j hj k]
theorem iU_at (ss : List (List Int)) (n : Nat) (hn : n < 16) : ∀ k, (iU ss k).getD n false = (namedIn ss (n : Int) k || decide ((n : Int) = 0))
  | 0 => by
    rw [iU, namedIn]
    cases n with
    | zero => rfl
    | succ n =>
      have : decide (((n + 1 : Nat) : Int) = 0) = false := decide_eq_false (by omega)
      rw [this, List.getD_cons_succ, List.getD, List.getElem?_replicate, if_pos (by omega)]; rfl
  | k + 1 => by
    rw [iU, namedIn_succ]
    cases hu : (entAt ss (k : Int)).used with
    | true =>
      have ht := ent_tgt hu
      have h1 : decide (n = (entAt ss (k : Int)).target.toNat) = decide ((entAt ss (k : Int)).target = (n : Int)) := decide_eq_decide.2 (by omega)
      rw [if_pos rfl, getD_set (by rw [iU_len]; exact hn), iU_at ss n hn k, h1, Bool.true_and, Bool.or_assoc, Bool.or_assoc, Bool.or_comm (decide _) (decide _)]
    | false => rw [if_neg (by decide), iU_at ss n hn k, Bool.false_and, Bool.or_false]
theorem iU_taken (ss : List (List Int)) (n : Nat) (hn : n < 16) : (iU ss 24).getD n false = takenB ss (n : Int) := by rw [iU_at ss n hn 24, takenB]
theorem eU_used (ss : List (List Int)) (j : Nat) (hj : j < 24) : (eU ss 24).getD j false = (entAt ss (j : Int)).used := by rw [eU_at ss j hj 24, decide_eq_true hj, Bool.true_and]
theorem bU_at {ss : List (List Int)} (hs : Secs ss) (b : Nat) (h1 : 1 ≤ b) (hb : b < 25) : ∀ n, (bU ss n).getD b false = hasU ss b n
  | 0 => by rw [bU, marks0, List.getD, List.getElem?_replicate, if_pos hb]; rfl
  | n + 1 => by
    rw [bU, hasU_succ, liveB]
    cases ht : takenB ss (n : Int) with
    | false => rw [if_neg (by decide), bU_at hs b h1 hb n, Bool.and_false, Bool.false_and, Bool.or_false]
    | true =>
      rw [if_pos rfl, setAll_at _ (fun z hz => ((ino_fine hs _).b z hz).1) _ b (by rw [bU_len]; exact hb), bU_at hs b h1 hb n, Bool.and_true]
      by_cases hk : (inoAt ss (n : Int)).kind = 1
      · rw [decide_eq_true hk, Bool.true_and]
      · rw [decide_eq_false hk, Bool.false_and, Bool.or_false]
        have : (inoAt ss (n : Int)).b.contains (b : Int) = false := by
          cases hc : (inoAt ss (n : Int)).b.contains (b : Int) with
          | false => rfl
          | true =>
            have := ino_plain hs (n : Int) hk _ (List.contains_iff_mem.1 hc)
            omega
        rw [this, Bool.or_false]
theorem bU_used {ss : List (List Int)} (hs : Secs ss) (b : Nat) (h1 : 1 ≤ b) (hb : b < 25) : (bU ss 16).getD b false = usedB ss b := by
  rw [bU_at hs b h1 hb 16, usedB, show (b == 0) = false from beq_eq_false_iff_ne.2 (by omega), Bool.false_or]
theorem cntU_congr {p q : Nat → Bool} : ∀ {k : Nat}, (∀ i, i < k → p i = q i) → cntU p k = cntU q k
  | 0, _ => rfl
  | k + 1, h => by rw [cntU, cntU, h k (by omega), cntU_congr (k := k) fun i hi => h i (by omega)]
theorem upto_congr {p q : Nat → Bool} : ∀ {k : Nat}, (∀ i, i < k → p i = q i) → upto p k = upto q k
  | 0, _ => rfl
  | k + 1, h => by rw [upto_succ, upto_succ, h k (by omega), upto_congr (k := k) fun i hi => h i (by omega)]
/-- the lowest number from f on that is not marked -/
def nextF (l : List Bool) (f : Nat) : Option Nat := upto (fun n => decide (f ≤ n) && !l.getD n false) l.length
theorem nextF_some {l : List Bool} {f n : Nat} (h : nextF l f = some n) : f ≤ n ∧ n < l.length ∧ l.getD n false = false ∧ ∀ i, f ≤ i → i < n → l.getD i false = true := by
  obtain ⟨h1, h2, h3⟩ := upto_some h
  rw [Bool.and_eq_true, decide_eq_true_eq, Bool.not_eq_true'] at h2
  refine ⟨h2.1, h1, h2.2, fun i hi hin => ?_⟩
  have := h3 i hin
  rw [decide_eq_true hi, Bool.true_and, Bool.not_eq_false'] at this
  exact this
theorem nextF_none {l : List Bool} {f : Nat} (h : nextF l f = none) : ∀ i, f ≤ i → i < l.length → l.getD i false = true := fun i hi hin => by
  have := upto_none.1 h i hin
  rw [decide_eq_true hi, Bool.true_and, Bool.not_eq_false'] at this
  exact this
theorem nextF_hit {l : List Bool} {f n : Nat} (h1 : f ≤ n) (h2 : n < l.length) (h3 : l.getD n false = false) (h4 : ∀ i, f ≤ i → i < n → l.getD i false = true) : nextF l f = some n := by
  refine upto_hit (upto_none.2 fun i hi => ?_) (by rw [decide_eq_true h1, h3]; rfl) _ h2
  by_cases e : f ≤ i
  · rw [h4 i e hi]; simp
  · rw [decide_eq_false e]; rfl
theorem nextF_miss {l : List Bool} {f : Nat} (h : ∀ i, f ≤ i → i < l.length → l.getD i false = true) : nextF l f = none :=
  upto_none.2 fun i hi => by
    by_cases e : f ≤ i
    · rw [h i e hi]; simp
    · rw [decide_eq_false e]; rfl
theorem next_ino (ss : List (List Int)) : nextF (iU ss 24) 0 = frI ss := by
  rw [nextF, iU_len, frI]
  exact upto_congr fun i hi => by rw [iU_taken ss i hi, decide_eq_true (Nat.zero_le i), Bool.true_and]
theorem next_ent (ss : List (List Int)) : nextF (eU ss 24) 0 = frE ss := by
  rw [nextF, eU_len, frE]
  exact upto_congr fun i hi => by rw [eU_used ss i hi, decide_eq_true (Nat.zero_le i), Bool.true_and]
/-- the free blocks below n, when those from f on below n are used -/
theorem frU_skip {ss : List (List Int)} {f : Nat} : ∀ {n : Nat}, f ≤ n → (∀ i, f ≤ i → i < n → usedB ss i = true) → frU ss n = frU ss f
  | 0, h, _ => by obtain rfl : f = 0 := by omega
                  rfl
  | n + 1, h, hu => by
    by_cases e : f = n + 1
    · rw [e]
    · rw [frU, hu n (by omega) (by omega), if_pos rfl, frU_skip (n := n) (by omega) fun i hi hin => hu i hi (by omega)]
theorem blk_step {ss : List (List Int)} (hs : Secs ss) {f n : Nat} (hf : 1 ≤ f) (h : nextF (bU ss 16) f = some n) : f ≤ n ∧ n < 25 ∧ frU ss (n + 1) = frU ss f ++ [n] := by
  obtain ⟨h1, h2, h3, h4⟩ := nextF_some h
  rw [bU_len] at h2
  refine ⟨h1, h2, ?_⟩
  rw [bU_used hs n (by omega) h2] at h3
  rw [frU, h3, if_neg (by decide), frU_skip h1 fun i hi hin => by rw [← bU_used hs i (by omega) (by omega)]; exact h4 i hi hin]
theorem blk_end {ss : List (List Int)} (hs : Secs ss) {f : Nat} (hf : 1 ≤ f) (hf2 : f ≤ 25) (h : nextF (bU ss 16) f = none) : frU ss 25 = frU ss f := by
  have h4 := nextF_none h
  rw [bU_len] at h4
  exact frU_skip hf2 fun i hi hin => by rw [← bU_used hs i (by omega) hin]; exact h4 i hi hin
theorem cnt_ino (ss : List (List Int)) : cntU (fun n => (iU ss 24).getD (0 + n) false) 16 = cntI ss := cntU_congr fun i hi => by rw [Nat.zero_add]; exact iU_taken ss i hi
theorem cnt_ent (ss : List (List Int)) : cntU (fun n => (eU ss 24).getD (0 + n) false) 24 = cntE ss := cntU_congr fun i hi => by rw [Nat.zero_add]; exact eU_used ss i hi
theorem cnt_blk {ss : List (List Int)} (hs : Secs ss) : cntU (fun n => (bU ss 16).getD (1 + n) false) 24 = cntB ss := by
  unfold cntB cntBU
  exact cntU_congr fun i hi => by rw [bU_used hs (1 + i) (by omega) (by omega), Nat.add_comm]
end Go.Proofs.Ytpckdjnddoaffaa.al
/- What the code's read, Inode and Entry give. -/
namespace Go.Proofs.Ytpckdjnddoaffaa.lk
set_option maxRecDepth 100000
open Go.ChangeShapes Go.WideShapes Go.ChangeAt Go.RowKit
open Go.Proofs.Ytpckdjnddoaffaa.rows
open Go.Proofs.Ytpckdjnddoaffaa.sec
open Go.Proofs.Ytpckdjnddoaffaa.dsk (wf64)
open Go.Proofs.Ytpckdjnddoaffaa.ly
set_option linter.unusedVariables false
set_option linter.unusedSimpArgs false

set_option maxRecDepth 100000 in
set_option maxHeartbeats 1600000 in
theorem sread_any (w : World) (d : Value) (ss : List (List Int)) (i : Int) (h : Dk w d ss) (hi : wf64 i) : Calls Try.prog 32 #[d, .int .i64 i] w fun e w' => e = .returned (agg (secAt ss i)) ∧ Below w.heap.size w w' := by
  have HT := Lib.hid fun w' (hb : Below w.heap.size w w') => dread w' d ss i (h.later hb) hi
  have hS := secAt_sec h.secs.1 i
  have A0 := Lib.hid (at_lit w)
  have hb0 := below_alloc (Below.refl w.heap.size w) (.cells #[Value.int IntKind.u8 0, Value.int IntKind.u8 0, Value.int IntKind.u8 0, Value.int IntKind.u8 0, Value.int IntKind.u8 0, Value.int IntKind.u8 0, Value.int IntKind.u8 0, Value.int IntKind.u8 0, Value.int IntKind.u8 0, Value.int IntKind.u8 0, Value.int IntKind.u8 0, Value.int IntKind.u8 0, Value.int IntKind.u8 0, Value.int IntKind.u8 0, Value.int IntKind.u8 0, Value.int IntKind.u8 0, Value.int IntKind.u8 0, Value.int IntKind.u8 0, Value.int IntKind.u8 0, Value.int IntKind.u8 0, Value.int IntKind.u8 0, Value.int IntKind.u8 0, Value.int IntKind.u8 0, Value.int IntKind.u8 0, Value.int IntKind.u8 0, Value.int IntKind.u8 0, Value.int IntKind.u8 0, Value.int IntKind.u8 0, Value.int IntKind.u8 0, Value.int IntKind.u8 0, Value.int IntKind.u8 0, Value.int IntKind.u8 0] 51)
  obtain ⟨W, hW⟩ : ∃ W, w.alloc (.cells #[Value.int IntKind.u8 0, Value.int IntKind.u8 0, Value.int IntKind.u8 0, Value.int IntKind.u8 0, Value.int IntKind.u8 0, Value.int IntKind.u8 0, Value.int IntKind.u8 0, Value.int IntKind.u8 0, Value.int IntKind.u8 0, Value.int IntKind.u8 0, Value.int IntKind.u8 0, Value.int IntKind.u8 0, Value.int IntKind.u8 0, Value.int IntKind.u8 0, Value.int IntKind.u8 0, Value.int IntKind.u8 0, Value.int IntKind.u8 0, Value.int IntKind.u8 0, Value.int IntKind.u8 0, Value.int IntKind.u8 0, Value.int IntKind.u8 0, Value.int IntKind.u8 0, Value.int IntKind.u8 0, Value.int IntKind.u8 0, Value.int IntKind.u8 0, Value.int IntKind.u8 0, Value.int IntKind.u8 0, Value.int IntKind.u8 0, Value.int IntKind.u8 0, Value.int IntKind.u8 0, Value.int IntKind.u8 0, Value.int IntKind.u8 0] 51) = W := ⟨_, rfl⟩
  rw [hW] at hb0 A0
  have HB0 := Lib.hid hb0
  have HS := Lib.hid hS
  generalize (if 0 ≤ i ∧ i < (ss.length : Int) then (0 : Int) else 1) = r at HT
  generalize secAt ss i = s at *
  clear h hS hb0 hi
  go_enter Try.func32, Try.ntmps32
  go_upto_region 1 with fail
  clear hW
  go_wp2_with (first | (go_at_call 47; refine (HT.out _ HB0.out).mono ?_; rintro e w1 ⟨rfl, hb⟩; have B1 := Lib.hid (below_trans HB0.out hb); have A1 := Lib.hid (A0.out.later hb); clear hb) | (refine store_at rfl (.tmp 5) (.tmp 11) rfl rfl w1.heap.size s zero32 rfl rfl HS.out.1 (by decide) (at_lit w1) ?_; intro w2 hA hB _; have hb := (below_alloc (Below.refl _ w1) _).trans hB; have B2 := Lib.hid (below_trans B1.out hb); have A2 := Lib.hid (A1.out.later hb); have S2 := Lib.hid hA; clear hA hB hb) | (refine load_at rfl (.tmp 5) rfl w1.heap.size rfl s HS.out.1 S2.out ?_) | (refine store_at rfl (.tmp 4) (.tmp 13) rfl rfl w.heap.size s zero32 rfl rfl HS.out.1 (by decide) A2.out ?_; intro w5 hA hB _; have A5 := Lib.hid hA; have B5 := Lib.hid (B2.out.trans hB); clear hA hB))
  exact ret_sec rfl w.heap.size s rfl HS.out.1 A5.out rfl ⟨rfl, B5.out⟩
set_option maxRecDepth 100000 in
set_option maxHeartbeats 1600000 in
theorem cino_any (w : World) (d : Value) (ss : List (List Int)) (i : Int) (h : Dk w d ss) (hi : wf64 i) : Calls Try.prog 33 #[d, .int .i64 i] w fun e w' => e = .returned (aggI (inoAt ss i)) ∧ Below w.heap.size w w' := by
  have A0 := Lib.hid (atI_lit w)
  have hb0 := below_alloc (Below.refl w.heap.size w) (.cells #[.int .i64 0, .int .i64 0, .int .i64 0, .int .i64 0, .int .i64 0, .int .i64 0] 80)
  obtain ⟨i1, i2⟩ := rows.wf_i64 hi
  by_cases hin : 0 ≤ i ∧ i < 16
  · have e : inoAt ss i = inoOfV (secAt ss (1 + i)) := by rw [inoAt, if_pos hin]
    rw [e]
    have HT := Lib.hid fun w' (hb : Below w.heap.size w w') => sread_any w' d ss (1 + i) (h.later hb) (WalkArith.wf_i64 (by omega))
    have hS := secAt_sec h.secs.1 (1 + i)
    have HI := Lib.hid fun w => inodeOf_any (secAt ss (1 + i)) hS w
    have H4 := Lib.hid (inoOfV_four hS)
    obtain ⟨j1, j2⟩ := hin
    obtain ⟨W, hW⟩ : ∃ W, w.alloc (.cells #[.int .i64 0, .int .i64 0, .int .i64 0, .int .i64 0, .int .i64 0, .int .i64 0] 80) = W := ⟨_, rfl⟩
    rw [hW] at hb0 A0
    have HB0 := Lib.hid hb0
    generalize inoOfV (secAt ss (1 + i)) = x at *
    generalize inoOfB (secAt ss (1 + i)) = xb at *
    generalize secAt ss (1 + i) = s at *
    clear h hS e hb0
    go_enter Try.func33, Try.ntmps33
    go_upto_region 1 with fail
    clear hW
    go_wp2_with (first | (go_at_call 32; refine (HT.out _ HB0.out).mono ?_; rintro e w1 ⟨rfl, hb⟩; have B1 := Lib.hid (below_trans HB0.out hb); have A1 := Lib.hid (A0.out.later hb); clear hb) | (go_at_call 48; refine (HI.out _).mono ?_; rintro e w3 ⟨rfl, hb⟩; have B3 := Lib.hid (below_trans B1.out hb); have A3 := Lib.hid (A1.out.later hb); clear hb) | (refine store_ino rfl (.tmp 5) (.tmp 20) rfl rfl w3.heap.size x ino0 rfl rfl H4.out rfl (atI_lit w3) ?_; intro w4 hA hB _; have hb := (below_alloc (Below.refl _ w3) _).trans hB; have B4 := Lib.hid (below_trans B3.out hb); have A4 := Lib.hid (A3.out.later hb); have X4 := Lib.hid hA; clear hA hB hb) | (refine load_ino rfl (.tmp 5) rfl w3.heap.size rfl x H4.out X4.out ?_) | (refine store_ino rfl (.tmp 4) (.tmp 22) rfl rfl w.heap.size x ino0 rfl rfl H4.out rfl A4.out ?_; intro w5 hA hB _; have A5 := Lib.hid hA; have B5 := Lib.hid (B4.out.trans hB); clear hA hB))
    exact ret_ino1 rfl w.heap.size x rfl H4.out A5.out rfl ⟨rfl, B5.out⟩
  · have e : inoAt ss i = ino0 := by rw [inoAt, if_neg hin]
    rw [e]
    clear h e
    obtain ⟨W, hW⟩ : ∃ W, w.alloc (.cells #[.int .i64 0, .int .i64 0, .int .i64 0, .int .i64 0, .int .i64 0, .int .i64 0] 80) = W := ⟨_, rfl⟩
    rw [hW] at hb0 A0
    have HB0 := Lib.hid hb0
    clear hb0
    by_cases hz : i < 0
    · go_enter Try.func33, Try.ntmps33
      go_upto_region 1 with fail
      clear hW
      go_wp2_with (refine store_ino rfl (.tmp 4) (.tmp 13) rfl rfl w.heap.size ino0 ino0 rfl rfl rfl rfl A0.out ?_; intro w5 hA hB _; have A5 := Lib.hid hA; have B5 := Lib.hid (HB0.out.trans hB); clear hA hB)
      exact ret_ino1 rfl w.heap.size ino0 rfl rfl A5.out rfl ⟨rfl, B5.out⟩
    · have hz2 : 16 ≤ i := by omega
      have hz0 : 0 ≤ i := by omega
      go_enter Try.func33, Try.ntmps33
      go_upto_region 1 with fail
      clear hW
      go_wp2_with (refine store_ino rfl (.tmp 4) (.tmp 13) rfl rfl w.heap.size ino0 ino0 rfl rfl rfl rfl A0.out ?_; intro w5 hA hB _; have A5 := Lib.hid hA; have B5 := Lib.hid (HB0.out.trans hB); clear hA hB)
      exact ret_ino1 rfl w.heap.size ino0 rfl rfl A5.out rfl ⟨rfl, B5.out⟩
set_option maxRecDepth 100000 in
set_option maxHeartbeats 1600000 in
theorem cent_any (w : World) (d : Value) (ss : List (List Int)) (i : Int) (h : Dk w d ss) (hi : wf64 i) : Calls Try.prog 18 #[d, .int .i64 i] w fun e w' => e = .returned (aggE (entAt ss i)) ∧ Below w.heap.size w w' := by
  have A0 := Lib.hid (atE_lit w)
  have hb0 := below_alloc (Below.refl w.heap.size w) (.cells #[.bool false, .int .i64 0, .string { data := #[] }, .int .i64 0] 42)
  obtain ⟨i1, i2⟩ := rows.wf_i64 hi
  by_cases hin : 0 ≤ i ∧ i < 24
  · have e : entAt ss i = entOfV (secAt ss (17 + i)) := by rw [entAt, if_pos hin]
    rw [e]
    have HT := Lib.hid fun w' (hb : Below w.heap.size w w') => sread_any w' d ss (17 + i) (h.later hb) (WalkArith.wf_i64 (by omega))
    have hS := secAt_sec h.secs.1 (17 + i)
    have HI := Lib.hid fun w => entryOf_any (secAt ss (17 + i)) hS w
    have _h4 := True.intro
    obtain ⟨j1, j2⟩ := hin
    obtain ⟨W, hW⟩ : ∃ W, w.alloc (.cells #[.bool false, .int .i64 0, .string { data := #[] }, .int .i64 0] 42) = W := ⟨_, rfl⟩
    rw [hW] at hb0 A0
    have HB0 := Lib.hid hb0
    generalize entOfV (secAt ss (17 + i)) = x at *
    generalize entOfB (secAt ss (17 + i)) = xb at *
    generalize secAt ss (17 + i) = s at *
    clear h hS e hb0
    go_enter Try.func18, Try.ntmps18
    go_upto_region 1 with fail
    clear hW
    go_wp2_with (first | (go_at_call 32; refine (HT.out _ HB0.out).mono ?_; rintro e w1 ⟨rfl, hb⟩; have B1 := Lib.hid (below_trans HB0.out hb); have A1 := Lib.hid (A0.out.later hb); clear hb) | (go_at_call 31; refine (HI.out _).mono ?_; rintro e w3 ⟨rfl, hb⟩; have B3 := Lib.hid (below_trans B1.out hb); have A3 := Lib.hid (A1.out.later hb); clear hb) | (refine store_ent rfl (.tmp 5) (.tmp 20) rfl rfl w3.heap.size x ent0 rfl rfl (atE_lit w3) ?_; intro w4 hA hB _; have hb := (below_alloc (Below.refl _ w3) _).trans hB; have B4 := Lib.hid (below_trans B3.out hb); have A4 := Lib.hid (A3.out.later hb); have X4 := Lib.hid hA; clear hA hB hb) | (refine load_ent rfl (.tmp 5) rfl w3.heap.size rfl x X4.out ?_) | (refine store_ent rfl (.tmp 4) (.tmp 22) rfl rfl w.heap.size x ent0 rfl rfl A4.out ?_; intro w5 hA hB _; have A5 := Lib.hid hA; have B5 := Lib.hid (B4.out.trans hB); clear hA hB))
    exact ret_ent1 rfl w.heap.size x rfl A5.out rfl ⟨rfl, B5.out⟩
  · have e : entAt ss i = ent0 := by rw [entAt, if_neg hin]
    rw [e]
    clear h e
    obtain ⟨W, hW⟩ : ∃ W, w.alloc (.cells #[.bool false, .int .i64 0, .string { data := #[] }, .int .i64 0] 42) = W := ⟨_, rfl⟩
    rw [hW] at hb0 A0
    have HB0 := Lib.hid hb0
    clear hb0
    by_cases hz : i < 0
    · go_enter Try.func18, Try.ntmps18
      go_upto_region 1 with fail
      clear hW
      go_wp2_with (refine store_ent rfl (.tmp 4) (.tmp 13) rfl rfl w.heap.size ent0 ent0 rfl rfl A0.out ?_; intro w5 hA hB _; have A5 := Lib.hid hA; have B5 := Lib.hid (HB0.out.trans hB); clear hA hB)
      exact ret_ent1 rfl w.heap.size ent0 rfl A5.out rfl ⟨rfl, B5.out⟩
    · have hz2 : 24 ≤ i := by omega
      have hz0 : 0 ≤ i := by omega
      go_enter Try.func18, Try.ntmps18
      go_upto_region 1 with fail
      clear hW
      go_wp2_with (refine store_ent rfl (.tmp 4) (.tmp 13) rfl rfl w.heap.size ent0 ent0 rfl rfl A0.out ?_; intro w5 hA hB _; have A5 := Lib.hid hA; have B5 := Lib.hid (HB0.out.trans hB); clear hA hB)
      exact ret_ent1 rfl w.heap.size ent0 rfl A5.out rfl ⟨rfl, B5.out⟩
end Go.Proofs.Ytpckdjnddoaffaa.lk
