/- What LookReads wants, part 18. -/
import Derived.Test.YtofnciffdhjacaaGreatDoorLookReadsA
import Derived.Test.YtofnciffdhjacaaGreatDoorLookReadsE
import Derived.Test.YtofnciffdhjacaaGreatDoorLookReadsF
import Derived.Test.YtofnciffdhjacaaGreatDoorLookReadsG
import Derived.Test.YtofnciffdhjacaaGreatDoorLookReadsH
import Derived.Test.YtofnciffdhjacaaGreatDoorLookReadsM
import Derived.Test.YtofnciffdhjacaaGreatDoorLookReadsP
import Derived.Test.YtofnciffdhjacaaGreatDoorLookReadsQ
/- A disk as layer 9 sees it: the sectors that Read gives; an image with writes over it. -/
namespace Go.Proofs.YtofnciffdhjacaaGreatDoor.lk
set_option maxRecDepth 100000
open Go.ChangeShapes Go.WideShapes Go.ChangeAt Go.RowKit
open Go.Proofs.YtofnciffdhjacaaGreatDoor.rows
open Go.Proofs.YtofnciffdhjacaaGreatDoor.sec
open Go.Proofs.YtofnciffdhjacaaGreatDoor.dsk (Wr.ok Wr.c Wr.c_len wf64 St Wr CA seenOf readOf readR writeR asks grow cread uread seen_at seenOf_len seenOf_secs codeAt_kept Keeps.of_below seenOf_more)
open Go.Proofs.YtofnciffdhjacaaGreatDoor.ly
set_option linter.unusedVariables false
set_option linter.unusedSimpArgs false

/-- d is a disk whose sectors are ss; nobody's disk has none -/
def Dk (w : World) (d : Value) (ss : List (List Int)) : Prop := (d = .pointer none ∧ ss = []) ∨ ∃ F st, CA w F d st ∧ st.fine ∧ seenOf st = ss
theorem CA.later' {w w' : World} {F : Nat → Prop} {d : Value} {st : St} (h : CA w F d st) (hb : Below w.heap.size w w') : CA w' F d st := by
  obtain ⟨z, g, vs, vw, vn, vl, vf, hd, h⟩ := h
  exact ⟨z, g, vs, vw, vn, vl, vf, hd, codeAt_kept h (Keeps.of_below hb)⟩
theorem Dk.later {w w' : World} {d : Value} {ss : List (List Int)} (h : Dk w d ss) (hb : Below w.heap.size w w') : Dk w' d ss := by
  rcases h with h | ⟨F, st, h1, h2, h3⟩
  · exact Or.inl h
  · exact Or.inr ⟨F, st, CA.later' h1 hb, h2, h3⟩
theorem Dk.secs {w : World} {d : Value} {ss : List (List Int)} (h : Dk w d ss) : Secs ss ∧ ss.length ≤ 65 := by
  rcases h with ⟨_, rfl⟩ | ⟨F, st, h1, h2, rfl⟩
  · exact ⟨fun s hs => (by cases hs), Nat.zero_le _⟩
  · exact ⟨seenOf_secs h2, by rw [seenOf_len]; exact h2.n1⟩
/-- sector i, or 0 -/
def secAt (ss : List (List Int)) (i : Int) : List Int := if 0 ≤ i ∧ i < (ss.length : Int) then ss.getD i.toNat zero32 else zero32
theorem secAt_sec {ss : List (List Int)} (h : Secs ss) (i : Int) : Sec (secAt ss i) := by
  unfold secAt
  split
  · rename_i hi
    have hl : i.toNat < ss.length := by omega
    rw [show ss.getD i.toNat zero32 = ss[i.toNat] by simp [List.getD, hl]]
    exact h _ (List.getElem_mem hl)
  · exact sec_zero
theorem dread (w : World) (d : Value) (ss : List (List Int)) (i : Int) (h : Dk w d ss) (hi : wf64 i) :
    Calls Tryz.prog 42 #[d, .int .i64 i] w fun e w' => e = .returned (.tuple #[agg (secAt ss i), .int .i64 (if 0 ≤ i ∧ i < (ss.length : Int) then 0 else 1)]) ∧ Below w.heap.size w w' := by
  rcases h with ⟨rfl, rfl⟩ | ⟨F, st, h1, h2, rfl⟩
  · have e : ¬ (0 ≤ i ∧ i < (([] : List (List Int)).length : Int)) := by simp; try omega
    rw [secAt, if_neg e, if_neg e]
    exact uread (Or.inl rfl) i
  · have h3 := cread w F d st i h1 h2 hi
    rw [readR] at h3
    rw [secAt, seenOf_len]
    by_cases hin : 0 ≤ i ∧ i < (st.safe.length : Int)
    · rw [if_pos hin] at h3
      rw [if_pos hin, if_pos hin]
      have hk : i.toNat < st.safe.length := by omega
      have e := seen_at i.toNat st.wait st.safe (fun x hx => (h2.pos x hx).1) hk
      have e2 : (seenOf st).getD i.toNat zero32 = readOf st i.toNat := by
        have hl : i.toNat < (seenOf st).length := by rw [seenOf_len]; exact hk
        have h1 : some ((seenOf st)[i.toNat]) = some (readOf st i.toNat) := (List.getElem?_eq_getElem _).symm.trans e
        rw [List.getD, List.getElem?_eq_getElem hl]
        exact Option.some.inj h1
      rw [e2]
      exact h3
    · rw [if_neg hin] at h3
      rw [if_neg hin, if_neg hin]
      exact h3
/-- a write over an image -/
def wr1 (l : List (List Int)) (x : Wr) : List (List Int) := if 0 ≤ x.pos ∧ x.pos < (l.length : Int) then l.set x.pos.toNat x.s else l
theorem wr1_len (l : List (List Int)) (x : Wr) : (wr1 l x).length = l.length := by unfold wr1; split <;> simp
def over (ss : List (List Int)) (ws : List Wr) (i : Nat) : List (List Int) := (ws.take i).foldl wr1 ss
theorem over_succ {ss : List (List Int)} {ws : List Wr} {i : Nat} (h : i < ws.length) : over ss ws (i + 1) = wr1 (over ss ws i) ws[i] := by
  rw [over, List.take_succ_eq_append_getElem h, List.foldl_append]; rfl
theorem over_len (ss : List (List Int)) (ws : List Wr) : ∀ i, i ≤ ws.length → (over ss ws i).length = ss.length
  | 0, _ => rfl
  | i + 1, h => by rw [over_succ (show i < ws.length by omega), wr1_len, over_len ss ws i (by omega)]
def withL (ss : List (List Int)) (ws : List Wr) : List (List Int) := if 1 ≤ ss.length ∧ ss.length ≤ 65 then over ss ws ws.length else []
/-- what holds at the head of the round over the writes -/
structure WAt (W : World) (ss : List (List Int)) (ws : List Wr) (i : Nat) (d : Value) (w : World) (F : Nat → Prop) (st : St) : Prop where
  code : CA w F d st
  good : st.good i
  bad : st.bad = []
  seen : seenOf st = over ss ws i
  inF : ∀ b, F b → W.heap.size ≤ b ∧ b < w.heap.size
  below : Below W.heap.size W w
theorem WAt.later {W w w' : World} {ss : List (List Int)} {ws : List Wr} {i : Nat} {d : Value} {F : Nat → Prop} {st : St} (h : WAt W ss ws i d w F st) (hb : Below w.heap.size w w') : WAt W ss ws i d w' F st :=
  ⟨CA.later' h.code hb, h.good, h.bad, h.seen, fun b hF => by have := h.inF b hF; have := hb.size; omega, below_trans h.below hb⟩
theorem WAt.done {W w w' : World} {ss : List (List Int)} {ws : List Wr} {i : Nat} {d : Value} {F : Nat → Prop} {st : St} (h : WAt W ss ws i d w F st) (hi : i < ws.length) (hok : ∀ x ∈ ws, x.ok)
    (hc : CA w' (grow F w w') d (writeR st ws[i].pos ws[i].s ws[i].kind ws[i].id).2) (ht : dsk.Touch F w w') : WAt W ss ws (i + 1) d w' (grow F w w') (writeR st ws[i].pos ws[i].s ws[i].kind ws[i].id).2 := by
  have hz := ht.size
  have hbz := h.below.size
  have hsl : (over ss ws i).length = st.safe.length := by rw [← h.seen, seenOf_len]
  have hx := hok _ (List.getElem_mem hi)
  have hF2 : ∀ b, grow F w w' b → W.heap.size ≤ b ∧ b < w'.heap.size := fun b hF => by
    rcases hF with hF | hF
    · have := h.inF b hF; omega
    · omega
  have hb2 := h.below.trans (ht.below hbz fun i hi => (h.inF i hi).1)
  have hna : asks st = false := by unfold asks; rw [h.bad]; simp
  have hg := h.good
  have hov := over_succ (ss := ss) hi
  generalize ws[i] = x at *
  unfold writeR at hc ⊢
  by_cases hin : 0 ≤ x.pos ∧ x.pos < (st.safe.length : Int)
  · rw [if_pos hin, if_neg (by rw [hna]; decide)] at hc ⊢
    refine ⟨hc, ⟨hg.ss, hg.n1, fun y hy => ?_, fun e he => ?_, ?_, ?_, hg.bn, ⟨hg.ep.1, ?_⟩, ⟨?_, ?_⟩⟩, h.bad, ?_, hF2, hb2⟩
    · rcases List.mem_append.1 hy with hy | hy
      · exact hg.ws y hy
      · rw [List.mem_singleton.1 hy]; exact ⟨hx.1, hin⟩
    · rcases List.mem_append.1 he with he | he
      · exact hg.es e he
      · rw [List.mem_singleton.1 he]; exact ⟨hx.1, Nat.zero_le _⟩
    · have := hg.wn; simp; omega
    · have := hg.ln; simp; omega
    · have := hg.ep.2; show st.ep ≤ ((i + 1 : Nat) : Int); omega
    · have := hg.asked.1; show 0 ≤ st.asked + 1; omega
    · have := hg.asked.2; show st.asked + 1 ≤ ((i + 1 : Nat) : Int); omega
    · have e : seenOf { st with asked := st.asked + 1, wait := st.wait ++ [⟨x.pos, x.s, x.kind, x.id, st.ep⟩], log := st.log ++ [(1, ⟨x.pos, x.s, x.kind, x.id, st.ep⟩, [])] } = (seenOf st).set x.pos.toNat x.s := seenOf_more st ⟨x.pos, x.s, x.kind, x.id, st.ep⟩
      exact e.trans (by rw [h.seen, hov, wr1, hsl, if_pos hin])
  · rw [if_neg hin] at hc ⊢
    refine ⟨hc, ⟨hg.ss, hg.n1, hg.ws, hg.es, ?_, ?_, hg.bn, ⟨hg.ep.1, ?_⟩, ⟨?_, ?_⟩⟩, h.bad, ?_, hF2, hb2⟩
    · have := hg.wn; show st.wait.length ≤ i + 1; omega
    · have := hg.ln; show st.log.length ≤ i + 1; omega
    · have := hg.ep.2; show st.ep ≤ ((i + 1 : Nat) : Int); omega
    · have := hg.asked.1; show 0 ≤ st.asked + 1; omega
    · have := hg.asked.2; show st.asked + 1 ≤ ((i + 1 : Nat) : Int); omega
    · exact h.seen.trans (by rw [hov, wr1, hsl, if_neg hin])
theorem WAt.dk {W w : World} {ss : List (List Int)} {ws : List Wr} {i : Nat} {d : Value} {F : Nat → Prop} {st : St} (h : WAt W ss ws i d w F st) (hi : i ≤ 900) : Dk w d (over ss ws i) := Or.inr ⟨F, st, h.code, h.good.fine hi, h.seen⟩
theorem WAt.start {W w : World} {ss : List (List Int)} {ws : List Wr} {d : Value} (hs : Secs ss) (hl : ss.length ≤ 65) (hb : Below W.heap.size W w) (hc : CA w (fun b => W.heap.size ≤ b ∧ b < w.heap.size) d (dsk.st0 ss)) : WAt W ss ws 0 d w (fun b => W.heap.size ≤ b ∧ b < w.heap.size) (dsk.st0 ss) :=
  ⟨hc, ⟨hs, hl, fun x hx => (by cases hx), fun x hx => (by cases hx), Nat.le_refl _, Nat.le_refl _, Nat.zero_le _, ⟨Int.le_refl _, Int.le_refl _⟩, ⟨Int.le_refl _, Int.le_refl _⟩⟩, rfl, rfl, fun b hb => hb, hb⟩
theorem wrs_of_trod {H : Type} {enc : TypeId × Value → H} {W : World} {p : Option Addr} {len cap : Nat} {d : DataW H} {ps : List MemPlace}
    (h : DataW.Trod enc Tryz.prog W 0 (fun _ => true) true 23 (.slice p len cap) d ps) : ∃ ws : List Wr, (∀ x ∈ ws, x.ok) ∧ Rd W 36 (.slice p len cap) len (dsk.wrsC ws) ∧ len ≤ maxLen := by
  obtain ⟨fuel, hf⟩ := h
  obtain ⟨p', len', cap', l, hcs, hg, hll, hr, hm⟩ := open_slice Wr.c (by decide) dsk.und_wrs dsk.cellsWr Wr.ok (fun x hx => Wr.c_len hx.1) (fun _ _ _ h => dsk.wr_of_cells h) hf
  simp [Value.cells] at hcs
  obtain ⟨rfl, rfl, rfl⟩ := hcs
  exact ⟨l, hg, hr, hm⟩
end Go.Proofs.YtofnciffdhjacaaGreatDoor.lk
/- What the law's Disk gives: of an image, with writes that wait. -/
namespace Go.Proofs.YtofnciffdhjacaaGreatDoor.lk
set_option maxRecDepth 100000
open Go.ChangeShapes Go.WideShapes Go.ChangeAt Go.RowKit
open Go.Proofs.YtofnciffdhjacaaGreatDoor.rows
open Go.Proofs.YtofnciffdhjacaaGreatDoor.sec
open Go.Proofs.YtofnciffdhjacaaGreatDoor.dsk (Wr.ok Wr.c Wr.c_len wf64 St Wr CA seenOf readOf readR writeR asks grow wr_parts ld_cell ld_tag wrsC)
open Go.Proofs.YtofnciffdhjacaaGreatDoor.ly
set_option linter.unusedVariables false
set_option linter.unusedSimpArgs false

/-- what holds at the head of the round over the writes, of a disk or of none -/
def WD (W : World) (ss : List (List Int)) (ws : List Wr) (i : Nat) (d : Value) (w : World) (F : Nat → Prop) : Prop :=
  (d = .pointer none ∧ ¬ (1 ≤ ss.length ∧ ss.length ≤ 65) ∧ (∀ b, ¬ F b) ∧ Below W.heap.size W w) ∨ ((1 ≤ ss.length ∧ ss.length ≤ 65) ∧ ∃ st, WAt W ss ws i d w F st)
theorem WD.later {W w w' : World} {ss : List (List Int)} {ws : List Wr} {i : Nat} {d : Value} {F : Nat → Prop} (h : WD W ss ws i d w F) (hb : Below w.heap.size w w') : WD W ss ws i d w' F := by
  rcases h with ⟨h1, h2, h3, h4⟩ | ⟨h1, st, h2⟩
  · exact Or.inl ⟨h1, h2, h3, below_trans h4 hb⟩
  · exact Or.inr ⟨h1, st, h2.later hb⟩
theorem WD.below {W w : World} {ss : List (List Int)} {ws : List Wr} {i : Nat} {d : Value} {F : Nat → Prop} (h : WD W ss ws i d w F) : Below W.heap.size W w := by
  rcases h with ⟨_, _, _, h⟩ | ⟨_, st, h⟩
  · exact h
  · exact h.below
theorem WD.inF {W w : World} {ss : List (List Int)} {ws : List Wr} {i : Nat} {d : Value} {F : Nat → Prop} (h : WD W ss ws i d w F) (b : Nat) (hF : F b) : W.heap.size ≤ b := by
  rcases h with ⟨_, _, h, _⟩ | ⟨_, st, h⟩
  · exact absurd hF (h b)
  · exact (h.inF b hF).1
theorem WD.dk {W w : World} {ss : List (List Int)} {ws : List Wr} {d : Value} {F : Nat → Prop} (h : WD W ss ws ws.length d w F) (hl : ws.length ≤ 900) : Dk w d (withL ss ws) := by
  rcases h with ⟨rfl, h2, _, _⟩ | ⟨h1, st, h⟩
  · rw [withL, if_neg h2]; exact Or.inl ⟨rfl, rfl⟩
  · rw [withL, if_pos h1]; exact h.dk hl
theorem dwrite {W w : World} {ss : List (List Int)} {ws : List Wr} {i : Nat} {d : Value} {F : Nat → Prop} (h : WD W ss ws i d w F) (hi : i < ws.length) (hl : i ≤ 900) (hok : ∀ x ∈ ws, x.ok) :
    Calls Tryz.prog 21 #[d, .int .i64 ws[i].pos, agg ws[i].s, .agg #[.int .i64 ws[i].kind, .int .i64 ws[i].id]] w fun e w' => ∃ r F', e = .returned (.int .i64 r) ∧ WD W ss ws (i + 1) d w' F' ∧ dsk.Touch F w w' := by
  obtain ⟨o1, o2, o3, o4, o5⟩ := hok _ (List.getElem_mem hi)
  rcases h with ⟨rfl, h2, h3, h4⟩ | ⟨h1, st, h⟩
  · refine (dsk.uwrite (Or.inl rfl) _ _ _ _).mono ?_
    rintro e w' ⟨rfl, hb⟩
    exact ⟨_, F, rfl, Or.inl ⟨rfl, h2, h3, below_trans h4 hb⟩, dsk.Touch.of_below hb⟩
  · refine (dsk.cwrite w F d st ws[i].pos ws[i].s ws[i].kind ws[i].id h.code (h.good.fine hl) o2 o1 o3 o4).mono ?_
    rintro e w' ⟨rfl, hc, ht⟩
    exact ⟨_, _, rfl, Or.inr ⟨h1, _, h.done hi hok hc ht⟩, ht⟩
theorem dfrom (w : World) (p : Option Addr) (n c : Nat) (ss : List (List Int)) (ws : List Wr) (hs : Secs ss) (h : Rd w 32 (.slice p n c) n (cellsOf ss)) (hn : n ≤ 200) :
    Calls Tryz.prog 20 #[.slice p n c] w fun e w' => ∃ d r F, e = .returned (.tuple #[d, .int .i64 r]) ∧ WD w ss ws 0 d w' F := by
  have hl : ss.length = n := by have h := h.cells; rw [cellsOf_len hs] at h; omega
  by_cases h1 : 1 ≤ n ∧ n ≤ 65
  · refine (dsk.cfrom_yes w p n c ss hs h h1.1 h1.2).mono ?_
    rintro e w' ⟨ad, rfl, hc, hb⟩
    exact ⟨_, _, _, rfl, Or.inr ⟨by rw [hl]; exact h1, _, WAt.start hs (by omega) hb hc⟩⟩
  · refine (dsk.cfrom_no w p n c hn (by omega)).mono ?_
    rintro e w' ⟨rfl, hb⟩
    exact ⟨_, _, fun _ => False, rfl, Or.inl ⟨rfl, by rw [hl]; exact h1, fun _ h => h, hb⟩⟩
theorem wr_tagR {w : World} {b o : Nat} {x : Wr} (hs : Sec x.s) (h : w.rangeAt b o x.c) : w.rangeAt b (o + 33) [.int .i64 x.kind, .int .i64 x.id] := fun j u hj => by
  obtain ⟨_, _, c1, c2, _⟩ := wr_parts hs h
  match j, hj with
  | 0, hj => simp at hj; subst hj; simpa using c1
  | 1, hj => simp at hj; subst hj; simpa using c2
set_option maxRecDepth 100000 in
set_option maxHeartbeats 1600000 in
theorem disk_any (p : Option Addr) (n c : Nat) (ss : List (List Int)) (p2 : Option Addr) (m c2 : Nat) (ws : List Wr) (w : World) (h1 : Rd w 32 (.slice p n c) n (cellsOf ss)) (hs : Secs ss) (hn : n ≤ 200)
    (h2 : Rd w 36 (.slice p2 m c2) m (wrsC ws)) (hok : ∀ x ∈ ws, x.ok) (hm : m ≤ 40) :
    Calls Tryz.prog 5 #[.slice p n c, .slice p2 m c2] w fun e w' => ∃ d, e = .returned d ∧ Dk w' d (withL ss ws) ∧ Below w.heap.size w w' := by
  have H1 := Lib.hid (dfrom w p n c ss ws hs h1 hn)
  have H2 := Lib.hid h2
  have HOK := Lib.hid hok
  have HLL := Lib.hid (dsk.Rd.count Wr.c h2 (fun x hx => Wr.c_len (hok x hx).1) (by decide))
  have hmi : (m : Int) ≤ 40 := by omega
  clear h1 hs h2 hok
  go_enter Tryz.func5, Tryz.ntmps5
  go_wp2_with (go_at_call 20; refine H1.out.mono ?_; rintro e w1 ⟨d, r, F0, rfl, hwd⟩; have HWD0 := Lib.hid hwd; clear hwd)
  go_loopw [7] (fun iv wr => ∃ (i : Nat) (F : Nat → Prop), i ≤ m ∧ iv = .int .i64 (i : Int) ∧ Hid (WD w ss ws i d wr F)) (fun iv _ => m - (intOf iv).toNat)
  case atStart => exact ⟨0, _, by omega, rfl, HWD0⟩
  case round =>
    clear HWD0
    obtain ⟨i, F, hi, rfl, HKA⟩ := hrel
    by_cases him : i < m
    · have him1 : (i:Int) < m := by omega
      have hil : i < ws.length := by rw [HLL.out]; exact him
      obtain ⟨b2, o2, rfl, hcc2, hcm2, hb2, _, HR2⟩ := dsk.Rd.chunk Wr.c H2.out (fun x hx => Wr.c_len (HOK.out x hx).1) (by decide) him
      have hmem := List.getElem_mem hil
      have HAO := Lib.hid (HOK.out _ hmem).1
      have HWR := Lib.hid (Rd.rangeLater (HR2 i hil) hb2 HKA.out.below)
      have HDW := Lib.hid fun w' (hw : WD w ss ws i d w' F) => dwrite hw hil (by omega) HOK.out
      generalize ws[i] = x at *
      clear HR2 hmem
      have hw4 := HKA.out.below.size
      have hbw : b2 < wr.heap.size := by omega
      go_wp2_with fail
      have HKD := Lib.hid (HKA.out.later ((Below.refl wr.heap.size wr).drew))
      have hnF : ¬ F b2 := fun hF => by have := HKA.out.inF _ hF; omega
      have hbd : b2 < wr.drew.heap.size := hbw
      have HWD : Hid (wr.drew.rangeAt b2 (o2 + i * 36) x.c) := Lib.hid (Rd.rangeLater HWR.out hbw ((Below.refl wr.heap.size wr).drew))
      refine wp_region_held_drew (S := dsk.Touch F wr.drew) (by kernel_rfl) (dsk.Touch.refl _ _) (fun hH0 => ?_)
      refine wpAnyH_take (i := 0) (oi := { dst := some 19, op := Op.move (Operand.tmp 5), type := 25, pos := "law.go:21", after := #[], guard := none }) (v := ?_) rfl (by kernel_rfl) (by kernel_rfl) (by kernel_rfl) (fun _ _ _ h => h) (Or.inl ⟨by rfl, ?_⟩) (by assumption) ?_
      rotate_left
      · (intro w' hSw; go_simp; try with_reducible rfl)
      try simp only [Act.put, List.setIfInBounds_toArray, List.set_cons_zero, List.set_cons_succ]
      refine wpAnyH_take (i := 1) (oi := { dst := some 20, op := Op.move (Operand.tmp 1), type := 23, pos := "law.go:21", after := #[], guard := none }) (v := ?_) rfl (by kernel_rfl) (by kernel_rfl) (by kernel_rfl) (fun _ _ _ h => h) (Or.inl ⟨by rfl, ?_⟩) (by assumption) ?_
      rotate_left
      · (intro w' hSw; go_simp; try with_reducible rfl)
      try simp only [Act.put, List.setIfInBounds_toArray, List.set_cons_zero, List.set_cons_succ]
      refine wpAnyH_take (i := 2) (oi := { dst := some 21, op := Op.move (Operand.tmp 7), type := 3, pos := "law.go:21", after := #[], guard := none }) (v := ?_) rfl (by kernel_rfl) (by kernel_rfl) (by kernel_rfl) (fun _ _ _ h => h) (Or.inl ⟨by rfl, ?_⟩) (by assumption) ?_
      rotate_left
      · (intro w' hSw; go_simp; try with_reducible rfl)
      try simp only [Act.put, List.setIfInBounds_toArray, List.set_cons_zero, List.set_cons_succ]
      refine wpAnyH_take (i := 3) (oi := { dst := some 22, op := Op.indexAddr 23 (Operand.tmp 20) (Operand.tmp 21), type := 0, pos := "law.go:21", after := #[{ on := 1, ground := Ground.data }, { on := 2, ground := Ground.data }], guard := none }) (v := ?_) rfl (by kernel_rfl) (by kernel_rfl) (by kernel_rfl) (fun _ _ _ h => h) (Or.inl ⟨by rfl, ?_⟩) (by assumption) ?_
      rotate_left
      · (intro w' hSw; go_simp; try with_reducible rfl)
      try simp only [Act.put, List.setIfInBounds_toArray, List.set_cons_zero, List.set_cons_succ]
      refine wpAnyH_take (i := 4) (oi := { dst := some 23, op := Op.fieldAddr 48 (Operand.tmp 22) 0, type := 0, pos := "law.go:21", after := #[{ on := 3, ground := Ground.data }], guard := none }) (v := ?_) rfl (by kernel_rfl) (by kernel_rfl) (by kernel_rfl) (fun _ _ _ h => h) (Or.inl ⟨by rfl, ?_⟩) (by assumption) ?_
      rotate_left
      · (intro w' hSw; go_simp; try with_reducible rfl)
      try simp only [Act.put, List.setIfInBounds_toArray, List.set_cons_zero, List.set_cons_succ]
      refine' wpAnyH_take (i := 5) (oi := { dst := some 24, op := Op.load 3 (Operand.tmp 23), type := 3, pos := "law.go:21", after := #[{ on := 4, ground := Ground.data }], guard := none }) (v := _) rfl (by kernel_rfl) (by kernel_rfl) (by kernel_rfl) (fun _ _ _ h => h) (ld_cell (by rfl) 3 _ Tryz.underlying3 rfl _ rfl b2 (o2 + i * 36) rfl (.int .i64 x.pos) (fun w' hw => (wr_parts HAO.out (dsk.Touch.range hw hbd hnF HWD.out)).1)) (by assumption) ?_
      try simp only [Act.put, List.setIfInBounds_toArray, List.set_cons_zero, List.set_cons_succ]
      refine wpAnyH_take (i := 6) (oi := { dst := some 25, op := Op.move (Operand.tmp 1), type := 23, pos := "law.go:21", after := #[], guard := none }) (v := ?_) rfl (by kernel_rfl) (by kernel_rfl) (by kernel_rfl) (fun _ _ _ h => h) (Or.inl ⟨by rfl, ?_⟩) (by assumption) ?_
      rotate_left
      · (intro w' hSw; go_simp; try with_reducible rfl)
      try simp only [Act.put, List.setIfInBounds_toArray, List.set_cons_zero, List.set_cons_succ]
      refine wpAnyH_take (i := 7) (oi := { dst := some 26, op := Op.move (Operand.tmp 7), type := 3, pos := "law.go:21", after := #[], guard := none }) (v := ?_) rfl (by kernel_rfl) (by kernel_rfl) (by kernel_rfl) (fun _ _ _ h => h) (Or.inl ⟨by rfl, ?_⟩) (by assumption) ?_
      rotate_left
      · (intro w' hSw; go_simp; try with_reducible rfl)
      try simp only [Act.put, List.setIfInBounds_toArray, List.set_cons_zero, List.set_cons_succ]
      refine wpAnyH_take (i := 8) (oi := { dst := some 27, op := Op.indexAddr 23 (Operand.tmp 25) (Operand.tmp 26), type := 0, pos := "law.go:21", after := #[{ on := 6, ground := Ground.data }, { on := 7, ground := Ground.data }], guard := none }) (v := ?_) rfl (by kernel_rfl) (by kernel_rfl) (by kernel_rfl) (fun _ _ _ h => h) (Or.inl ⟨by rfl, ?_⟩) (by assumption) ?_
      rotate_left
      · (intro w' hSw; go_simp; try with_reducible rfl)
      try simp only [Act.put, List.setIfInBounds_toArray, List.set_cons_zero, List.set_cons_succ]
      refine wpAnyH_take (i := 9) (oi := { dst := some 28, op := Op.fieldAddr 48 (Operand.tmp 27) 1, type := 0, pos := "law.go:21", after := #[{ on := 8, ground := Ground.data }], guard := none }) (v := ?_) rfl (by kernel_rfl) (by kernel_rfl) (by kernel_rfl) (fun _ _ _ h => h) (Or.inl ⟨by rfl, ?_⟩) (by assumption) ?_
      rotate_left
      · (intro w' hSw; go_simp; try with_reducible rfl)
      try simp only [Act.put, List.setIfInBounds_toArray, List.set_cons_zero, List.set_cons_succ]
      refine' wpAnyH_take (i := 10) (oi := { dst := some 29, op := Op.load 44 (Operand.tmp 28), type := 44, pos := "law.go:21", after := #[{ on := 9, ground := Ground.data }], guard := none }) (v := _) rfl (by kernel_rfl) (by kernel_rfl) (by kernel_rfl) (fun _ _ _ h => h) (ld_sec (by rfl) _ rfl b2 (o2 + i * 36 + 1) rfl x.s HAO.out.1 (fun w' hw => (wr_parts HAO.out (dsk.Touch.range hw hbd hnF HWD.out)).2.1)) (by assumption) ?_
      try simp only [Act.put, List.setIfInBounds_toArray, List.set_cons_zero, List.set_cons_succ]
      refine wpAnyH_take (i := 11) (oi := { dst := some 30, op := Op.move (Operand.tmp 1), type := 23, pos := "law.go:21", after := #[], guard := none }) (v := ?_) rfl (by kernel_rfl) (by kernel_rfl) (by kernel_rfl) (fun _ _ _ h => h) (Or.inl ⟨by rfl, ?_⟩) (by assumption) ?_
      rotate_left
      · (intro w' hSw; go_simp; try with_reducible rfl)
      try simp only [Act.put, List.setIfInBounds_toArray, List.set_cons_zero, List.set_cons_succ]
      refine wpAnyH_take (i := 12) (oi := { dst := some 31, op := Op.move (Operand.tmp 7), type := 3, pos := "law.go:21", after := #[], guard := none }) (v := ?_) rfl (by kernel_rfl) (by kernel_rfl) (by kernel_rfl) (fun _ _ _ h => h) (Or.inl ⟨by rfl, ?_⟩) (by assumption) ?_
      rotate_left
      · (intro w' hSw; go_simp; try with_reducible rfl)
      try simp only [Act.put, List.setIfInBounds_toArray, List.set_cons_zero, List.set_cons_succ]
      refine wpAnyH_take (i := 13) (oi := { dst := some 32, op := Op.indexAddr 23 (Operand.tmp 30) (Operand.tmp 31), type := 0, pos := "law.go:21", after := #[{ on := 11, ground := Ground.data }, { on := 12, ground := Ground.data }], guard := none }) (v := ?_) rfl (by kernel_rfl) (by kernel_rfl) (by kernel_rfl) (fun _ _ _ h => h) (Or.inl ⟨by rfl, ?_⟩) (by assumption) ?_
      rotate_left
      · (intro w' hSw; go_simp; try with_reducible rfl)
      try simp only [Act.put, List.setIfInBounds_toArray, List.set_cons_zero, List.set_cons_succ]
      refine wpAnyH_take (i := 14) (oi := { dst := some 33, op := Op.fieldAddr 48 (Operand.tmp 32) 2, type := 0, pos := "law.go:21", after := #[{ on := 13, ground := Ground.data }], guard := none }) (v := ?_) rfl (by kernel_rfl) (by kernel_rfl) (by kernel_rfl) (fun _ _ _ h => h) (Or.inl ⟨by rfl, ?_⟩) (by assumption) ?_
      rotate_left
      · (intro w' hSw; go_simp; try with_reducible rfl)
      try simp only [Act.put, List.setIfInBounds_toArray, List.set_cons_zero, List.set_cons_succ]
      refine' wpAnyH_take (i := 15) (oi := { dst := some 34, op := Op.load 46 (Operand.tmp 33), type := 46, pos := "law.go:21", after := #[{ on := 14, ground := Ground.data }], guard := none }) (v := _) rfl (by kernel_rfl) (by kernel_rfl) (by kernel_rfl) (fun _ _ _ h => h) (ld_tag (by rfl) _ rfl b2 (o2 + i * 36 + 33) rfl x.kind x.id (fun w' hw => wr_tagR HAO.out (dsk.Touch.range hw hbd hnF HWD.out))) (by assumption) ?_
      try simp only [Act.put, List.setIfInBounds_toArray, List.set_cons_zero, List.set_cons_succ]
      -- 16
      refine wpAnyH_ready (rs := [16]) (by kernel_rfl) (by simp) ?_
      refine AllReadyH.cons (o := { dst := some 35, op := Op.call { callee := Callee.value (Operand.func 21), args := #[Operand.tmp 19, Operand.tmp 24, Operand.tmp 29, Operand.tmp 34], argTypes := #[25, 3, 44, 46] }, type := 49, pos := "law.go:21", after := #[{ on := 0, ground := Ground.data }, { on := 5, ground := Ground.data }, { on := 10, ground := Ground.data }, { on := 15, ground := Ground.data }], guard := none }) rfl (fun K hK => ?_) AllReadyH.nil
      go_simp
      refine (HDW.out _ HKD.out).mono ?_
      rintro e v16 ⟨r16, F16, rfl, hc16, ht16⟩
      have HC16 := Lib.hid hc16
      have HT16 := Lib.hid ht16
      clear hc16 ht16
      dsimp only
      refine hK.out _ _ ?_ (fun hHeld => ?_)
      · exact HT16.out
      clear hK K
      try simp only [Act.put, List.setIfInBounds_toArray, List.set_cons_zero, List.set_cons_succ]
      refine wpAnyH_done (by kernel_rfl) ?_ _
      clear hHeld hH0
      go_wp2_with fail
      exact ⟨⟨i + 1, _, by omega, by go_num, HC16⟩, by simp [intOf]; omega⟩
    · obtain rfl : i = m := by omega
      have hfin := HKA.out
      rw [← HLL.out] at hfin
      have HF1 := Lib.hid (hfin.dk (by rw [HLL.out]; omega))
      have HF2 := Lib.hid hfin.below
      clear hfin HKA
      go_wp2_with fail
      go_ret
      exact ⟨d, rfl, HF1.out, HF2.out⟩
end Go.Proofs.YtofnciffdhjacaaGreatDoor.lk
/- What the reference's With gives: an image with writes over it. -/
namespace Go.Proofs.YtofnciffdhjacaaGreatDoor.lk
set_option maxRecDepth 100000
open Go.ChangeShapes Go.WideShapes Go.ChangeAt Go.RowKit
open Go.Proofs.YtofnciffdhjacaaGreatDoor.rows
open Go.Proofs.YtofnciffdhjacaaGreatDoor.sec
open Go.Proofs.YtofnciffdhjacaaGreatDoor.dsk (Wr.ok Wr.c Wr.c_len wf64 St Wr CA wr_parts ld_cell wrsC own_some own_blk secs_set step_store_own size_alloc)
open Go.Proofs.YtofnciffdhjacaaGreatDoor.ly
set_option linter.unusedVariables false
set_option linter.unusedSimpArgs false

theorem own_made2 {w : World} (b B : Nat) (e : TypeId) (sz : Nat) (hb : b = w.heap.size) (hB : B ≤ b) : Own (w.alloc (.cells #[] e)) B e sz (.slice (some ⟨b, 0, none⟩) 0 0) 0 [] := by
  subst hb; exact own_made w e sz hB
theorem over_secs {ss : List (List Int)} {ws : List Wr} (hs : Secs ss) (hw : ∀ x ∈ ws, x.ok) : ∀ i, i ≤ ws.length → Secs (over ss ws i)
  | 0, _ => hs
  | i + 1, h => by
    rw [over_succ (show i < ws.length by omega), wr1]
    split
    · exact secs_set (over_secs hs hw i (by omega)) (hw _ (List.getElem_mem _)).1 _
    · exact over_secs hs hw i (by omega)
set_option maxRecDepth 100000 in
set_option maxHeartbeats 1600000 in
theorem with_any (p : Option Addr) (n c : Nat) (ss : List (List Int)) (p2 : Option Addr) (m c2 : Nat) (ws : List Wr) (w : World) (h1 : Rd w 32 (.slice p n c) n (cellsOf ss)) (hs : Secs ss) (hn : n ≤ 200)
    (h2 : Rd w 36 (.slice p2 m c2) m (wrsC ws)) (hok : ∀ x ∈ ws, x.ok) (hm : m ≤ 40) :
    Calls Tryz.prog 6 #[.slice p n c, .slice p2 m c2] w fun e w' => ∃ q k, e = .returned (.slice q (withL ss ws).length k) ∧ Rd w' 32 (.slice q (withL ss ws).length k) (withL ss ws).length (cellsOf (withL ss ws)) ∧ Below w.heap.size w w' := by
  have H1 := Lib.hid h1
  have H2 := Lib.hid h2
  have HS := Lib.hid hs
  have HOK := Lib.hid hok
  have hsl : ss.length = n := by have h := h1.cells; rw [cellsOf_len hs] at h; omega
  have HSL := Lib.hid hsl
  have HLL := Lib.hid (dsk.Rd.count Wr.c h2 (fun x hx => Wr.c_len (hok x hx).1) (by decide))
  have hmi : (m : Int) ≤ 40 := by omega
  have hni : (n : Int) ≤ 200 := by omega
  by_cases hr : 1 ≤ n ∧ n ≤ 65
  · have HWL : Hid (withL ss ws = over ss ws m) := Lib.hid (by rw [withL, if_pos (by rw [hsl]; exact hr), HLL.out])
    have hn1 : (1 : Int) ≤ n := by omega
    have hn65 : (n : Int) ≤ 65 := by omega
    have HSF := Lib.hid (h1.later (below_alloc (Below.refl w.heap.size w) (.cells #[] 44)))
    clear h1 hs h2 hok hsl
    go_enter Tryz.func6, Tryz.ntmps6
    go_wp2_with (at_builtin; refine ap_rd elem_secs rfl (.tmp 15) (.tmp 16) rfl w.heap.size _ 0 [] rfl (own_made2 _ _ _ _ rfl (Nat.le_refl _)) _ n _ rfl HSF.out (one_ints .u8 _) (by omega) (by rw [size_alloc]; omega) ?_; intro p4 c4 w4 ho4 hb4; have HO4 := Lib.hid ho4; have hb14 := (below_alloc (Below.refl w.heap.size w) (.cells #[] 44)).trans hb4; clear ho4 hb4)
    have ho4 := HO4.out
    rw [Nat.zero_add, List.nil_append] at ho4
    have HO0 : Hid (Own w4 w.heap.size 44 32 (.slice p4 n c4) n (cellsOf (over ss ws 0))) := Lib.hid ho4
    clear HO4 ho4 HSF
    go_loopw [6] (fun iv wr => ∃ (j : Nat), j ≤ m ∧ iv = .int .i64 (j : Int) ∧ Hid (Own wr w.heap.size 44 32 (.slice p4 n c4) n (cellsOf (over ss ws j))) ∧ Below w.heap.size w wr) (fun iv _ => m - (intOf iv).toNat)
    case atStart => exact ⟨0, by omega, rfl, HO0, hb14⟩
    case round =>
      clear HO0 hb14
      obtain ⟨j, hj, rfl, HO, hbr⟩ := hrel
      by_cases ha : j < m
      · have ha1 : (j:Int) < m := by omega
        have hjl : j < ws.length := by rw [HLL.out]; exact ha
        obtain ⟨b2, o2, rfl, hcc2, hcm2, hb2, _, HR2⟩ := dsk.Rd.chunk Wr.c H2.out (fun x hx => Wr.c_len (HOK.out x hx).1) (by decide) ha
        have hmem := List.getElem_mem hjl
        have HAO := Lib.hid (HOK.out _ hmem).1
        have HWR := Lib.hid (Rd.rangeLater (HR2 j hjl) hb2 hbr)
        have HOV := Lib.hid (over_succ (ss := ss) hjl)
        have HOS := Lib.hid (over_secs HS.out HOK.out j (by omega))
        have HOL : Hid ((over ss ws j).length = n) := Lib.hid (by rw [over_len ss ws j (by omega), HSL.out])
        generalize ws[j] = x at *
        clear HR2 hmem
        have hzr := hbr.size
        have hbw : b2 < wr.heap.size := by omega
        have c0 := (wr_parts HAO.out HWR.out).1
        obtain ⟨z, hz⟩ : ∃ z, x.pos = z := ⟨_, rfl⟩
        rw [hz] at c0
        have HZ := Lib.hid hz
        clear hz
        by_cases h0 : z < 0
        · have HN : Hid (over ss ws (j + 1) = over ss ws j) := Lib.hid (by rw [HOV.out, wr1, if_neg (by rw [HZ.out]; omega)])
          go_wp2_with fail
          refine ⟨⟨j + 1, by omega, by go_num, Lib.hid (by rw [HN.out]; exact HO.out), hbr⟩, by simp [intOf]; omega⟩
        · by_cases h9 : (n : Int) ≤ z
          · have HN : Hid (over ss ws (j + 1) = over ss ws j) := Lib.hid (by rw [HOV.out, wr1, if_neg (by rw [HZ.out, HOL.out]; omega)])
            have h0' : (0 : Int) ≤ z := by omega
            go_wp2_with fail
            refine ⟨⟨j + 1, by omega, by go_num, Lib.hid (by rw [HN.out]; exact HO.out), hbr⟩, by simp [intOf]; omega⟩
          · obtain ⟨kp, rfl⟩ := Int.eq_ofNat_of_zero_le (show 0 ≤ z by omega)
            have hkn : kp < n := by omega
            have hkn1 : (kp : Int) < n := by omega
            have HN : Hid (over ss ws (j + 1) = (over ss ws j).set kp x.s) := Lib.hid (by rw [HOV.out, wr1, if_pos (by rw [HZ.out, HOL.out]; omega), HZ.out]; rfl)
            obtain ⟨g, hg⟩ := own_some HO.out (by omega)
            subst hg
            have hgb := own_blk HO.out (k := g) rfl
            have hgg := hgb.1
            have hgl := hgb.2
            clear h0 h9 hgb
            go_upto_region 8 with fail
            have HOD := Lib.hid (dsk.own_later HO.out ((Below.refl wr.heap.size wr).drew))
            have hbd : b2 < wr.drew.heap.size := hbw
            have HWD : Hid (wr.drew.rangeAt b2 (o2 + j * 36) x.c) := Lib.hid (Rd.rangeLater HWR.out hbw ((Below.refl wr.heap.size wr).drew))
            have HZD : Hid (∀ w', Below wr.drew.heap.size wr.drew w' → w'.cell? ⟨b2, o2 + j * 36, none⟩ = some (.int .i64 (kp : Int))) := Lib.hid (fun w' hw => by
              have := (wr_parts HAO.out (Rd.rangeLater HWD.out hbd hw)).1
              rw [HZ.out] at this
              exact this)
            refine wp_region_last (S := ext wr.drew) 12 (by kernel_rfl) (Below.refl _ _) (fun hH0 => ?_)
            refine wpAnyL_take (i := 0) (oi := { dst := some 40, op := Op.move (Operand.tmp 5), type := 22, pos := "ref.go:18", after := #[], guard := none }) (v := ?_) rfl (by kernel_rfl) (by kernel_rfl) (by kernel_rfl) (by kernel_rfl) (fun _ _ _ h => h) (Or.inl ⟨by rfl, ?_⟩) (by assumption) ?_
            rotate_left
            · (intro w' hSw; go_simp; try with_reducible rfl)
            try simp only [Act.put, List.setIfInBounds_toArray, List.set_cons_zero, List.set_cons_succ]
            refine wpAnyL_take (i := 1) (oi := { dst := some 41, op := Op.move (Operand.tmp 1), type := 23, pos := "ref.go:18", after := #[], guard := none }) (v := ?_) rfl (by kernel_rfl) (by kernel_rfl) (by kernel_rfl) (by kernel_rfl) (fun _ _ _ h => h) (Or.inl ⟨by rfl, ?_⟩) (by assumption) ?_
            rotate_left
            · (intro w' hSw; go_simp; try with_reducible rfl)
            try simp only [Act.put, List.setIfInBounds_toArray, List.set_cons_zero, List.set_cons_succ]
            refine wpAnyL_take (i := 2) (oi := { dst := some 42, op := Op.move (Operand.tmp 6), type := 3, pos := "ref.go:18", after := #[], guard := none }) (v := ?_) rfl (by kernel_rfl) (by kernel_rfl) (by kernel_rfl) (by kernel_rfl) (fun _ _ _ h => h) (Or.inl ⟨by rfl, ?_⟩) (by assumption) ?_
            rotate_left
            · (intro w' hSw; go_simp; try with_reducible rfl)
            try simp only [Act.put, List.setIfInBounds_toArray, List.set_cons_zero, List.set_cons_succ]
            refine wpAnyL_take (i := 3) (oi := { dst := some 43, op := Op.indexAddr 23 (Operand.tmp 41) (Operand.tmp 42), type := 0, pos := "ref.go:18", after := #[{ on := 1, ground := Ground.data }, { on := 2, ground := Ground.data }], guard := none }) (v := ?_) rfl (by kernel_rfl) (by kernel_rfl) (by kernel_rfl) (by kernel_rfl) (fun _ _ _ h => h) (Or.inl ⟨by rfl, ?_⟩) (by assumption) ?_
            rotate_left
            · (intro w' hSw; go_simp; try with_reducible rfl)
            try simp only [Act.put, List.setIfInBounds_toArray, List.set_cons_zero, List.set_cons_succ]
            refine wpAnyL_take (i := 4) (oi := { dst := some 44, op := Op.fieldAddr 48 (Operand.tmp 43) 0, type := 0, pos := "ref.go:18", after := #[{ on := 3, ground := Ground.data }], guard := none }) (v := ?_) rfl (by kernel_rfl) (by kernel_rfl) (by kernel_rfl) (by kernel_rfl) (fun _ _ _ h => h) (Or.inl ⟨by rfl, ?_⟩) (by assumption) ?_
            rotate_left
            · (intro w' hSw; go_simp; try with_reducible rfl)
            try simp only [Act.put, List.setIfInBounds_toArray, List.set_cons_zero, List.set_cons_succ]
            refine' wpAnyL_take (i := 5) (oi := { dst := some 45, op := Op.load 3 (Operand.tmp 44), type := 3, pos := "ref.go:18", after := #[{ on := 4, ground := Ground.data }], guard := none }) (v := _) rfl (by kernel_rfl) (by kernel_rfl) (by kernel_rfl) (by kernel_rfl) (fun _ _ _ h => h) (ld_cell (by rfl) 3 _ Tryz.underlying3 rfl _ rfl b2 (o2 + j * 36) rfl (.int .i64 (kp : Int)) (fun w' hw => HZD.out w' hw)) (by assumption) ?_
            try simp only [Act.put, List.setIfInBounds_toArray, List.set_cons_zero, List.set_cons_succ]
            refine wpAnyL_take (i := 6) (oi := { dst := some 46, op := Op.move (Operand.tmp 1), type := 23, pos := "ref.go:18", after := #[], guard := none }) (v := ?_) rfl (by kernel_rfl) (by kernel_rfl) (by kernel_rfl) (by kernel_rfl) (fun _ _ _ h => h) (Or.inl ⟨by rfl, ?_⟩) (by assumption) ?_
            rotate_left
            · (intro w' hSw; go_simp; try with_reducible rfl)
            try simp only [Act.put, List.setIfInBounds_toArray, List.set_cons_zero, List.set_cons_succ]
            refine wpAnyL_take (i := 7) (oi := { dst := some 47, op := Op.move (Operand.tmp 6), type := 3, pos := "ref.go:18", after := #[], guard := none }) (v := ?_) rfl (by kernel_rfl) (by kernel_rfl) (by kernel_rfl) (by kernel_rfl) (fun _ _ _ h => h) (Or.inl ⟨by rfl, ?_⟩) (by assumption) ?_
            rotate_left
            · (intro w' hSw; go_simp; try with_reducible rfl)
            try simp only [Act.put, List.setIfInBounds_toArray, List.set_cons_zero, List.set_cons_succ]
            refine wpAnyL_take (i := 8) (oi := { dst := some 48, op := Op.indexAddr 23 (Operand.tmp 46) (Operand.tmp 47), type := 0, pos := "ref.go:18", after := #[{ on := 6, ground := Ground.data }, { on := 7, ground := Ground.data }], guard := none }) (v := ?_) rfl (by kernel_rfl) (by kernel_rfl) (by kernel_rfl) (by kernel_rfl) (fun _ _ _ h => h) (Or.inl ⟨by rfl, ?_⟩) (by assumption) ?_
            rotate_left
            · (intro w' hSw; go_simp; try with_reducible rfl)
            try simp only [Act.put, List.setIfInBounds_toArray, List.set_cons_zero, List.set_cons_succ]
            refine wpAnyL_take (i := 9) (oi := { dst := some 49, op := Op.fieldAddr 48 (Operand.tmp 48) 1, type := 0, pos := "ref.go:18", after := #[{ on := 8, ground := Ground.data }], guard := none }) (v := ?_) rfl (by kernel_rfl) (by kernel_rfl) (by kernel_rfl) (by kernel_rfl) (fun _ _ _ h => h) (Or.inl ⟨by rfl, ?_⟩) (by assumption) ?_
            rotate_left
            · (intro w' hSw; go_simp; try with_reducible rfl)
            try simp only [Act.put, List.setIfInBounds_toArray, List.set_cons_zero, List.set_cons_succ]
            refine' wpAnyL_take (i := 10) (oi := { dst := some 50, op := Op.load 44 (Operand.tmp 49), type := 44, pos := "ref.go:18", after := #[{ on := 9, ground := Ground.data }], guard := none }) (v := _) rfl (by kernel_rfl) (by kernel_rfl) (by kernel_rfl) (by kernel_rfl) (fun _ _ _ h => h) (ld_sec (by rfl) _ rfl b2 (o2 + j * 36 + 1) rfl x.s HAO.out.1 (fun w' hw => (wr_parts HAO.out (Rd.rangeLater HWD.out hbd hw)).2.1)) (by assumption) ?_
            try simp only [Act.put, List.setIfInBounds_toArray, List.set_cons_zero, List.set_cons_succ]
            refine wpAnyL_take (i := 11) (oi := { dst := some 51, op := Op.indexAddr 22 (Operand.tmp 40) (Operand.tmp 45), type := 0, pos := "ref.go:18", after := #[{ on := 0, ground := Ground.data }, { on := 5, ground := Ground.data }, { on := 0, ground := Ground.phase }, { on := 1, ground := Ground.phase }, { on := 2, ground := Ground.phase }, { on := 3, ground := Ground.phase }, { on := 4, ground := Ground.phase }, { on := 5, ground := Ground.phase }, { on := 6, ground := Ground.phase }, { on := 7, ground := Ground.phase }, { on := 8, ground := Ground.phase }, { on := 9, ground := Ground.phase }, { on := 10, ground := Ground.phase }], guard := none }) (v := ?_) rfl (by kernel_rfl) (by kernel_rfl) (by kernel_rfl) (by kernel_rfl) (fun _ _ _ h => h) (Or.inl ⟨by rfl, ?_⟩) (by assumption) ?_
            rotate_left
            · (intro w' hSw; go_simp; try with_reducible rfl)
            try simp only [Act.put, List.setIfInBounds_toArray, List.set_cons_zero, List.set_cons_succ]
            -- 12
            refine wpAnyL_ready (rs := [12]) (by kernel_rfl) (by simp) ?_
            refine AllReadyL.cons (o := { dst := none, op := Op.store 44 (Operand.tmp 51) (Operand.tmp 50), type := 0, pos := "ref.go:18", after := #[{ on := 11, ground := Ground.data }, { on := 10, ground := Ground.data }, { on := 0, ground := Ground.phase }, { on := 1, ground := Ground.phase }, { on := 2, ground := Ground.phase }, { on := 3, ground := Ground.phase }, { on := 4, ground := Ground.phase }, { on := 5, ground := Ground.phase }, { on := 6, ground := Ground.phase }, { on := 7, ground := Ground.phase }, { on := 8, ground := Ground.phase }, { on := 9, ground := Ground.phase }, { on := 10, ground := Ground.phase }], guard := none }) rfl (fun K hK => ?_) AllReadyL.nil
            refine step_store_own (by rfl) _ _ (by rfl) w.heap.size g kp n c4 (by rfl) x.s (by rfl) HAO.out _ HOS.out (by rw [HOL.out]; exact hkn) HOD.out ?_
            intro w12 ho12 ht12
            have HO12 := Lib.hid ho12
            have HT12 := Lib.hid ht12
            clear ho12 ht12
            dsimp only
            refine hK.out _ _ (Or.inl rfl) (fun hHeld => ?_)
            clear hK K
            try simp only [Act.put, List.setIfInBounds_toArray, List.set_cons_zero, List.set_cons_succ]
            refine wpAnyL_done (by kernel_rfl) ?_ _
            clear hHeld hH0
            have hb12 : Below w.heap.size w w12 := hbr.drew.trans (HT12.out.below (show w.heap.size ≤ wr.drew.heap.size from hbr.size) (fun k hk => by rw [hk]; exact hgg))
            go_wp2_with fail
            exact ⟨⟨j + 1, by omega, by go_num, Lib.hid (by rw [HN.out]; exact HO12.out), hb12⟩, by simp [intOf]; omega⟩
      · obtain rfl : j = m := by omega
        have HF : Hid (Rd wr 32 (.slice p4 n c4) n (cellsOf (withL ss ws)) ∧ (withL ss ws).length = n) := Lib.hid ⟨by rw [HWL.out]; exact Own.rd HO.out, by rw [HWL.out, over_len ss ws j (by rw [HLL.out]; omega), HSL.out]⟩
        clear HO
        go_wp2_with fail
        go_ret
        obtain ⟨f1, f2⟩ := HF.out
        rw [f2]
        exact ⟨p4, c4, rfl, f1, hbr⟩
  · have HWL : Hid (withL ss ws = []) := Lib.hid (by rw [withL, if_neg (by rw [hsl]; exact hr)])
    clear h1 hs h2 hok hsl
    by_cases h0 : n < 1
    · have h0i : (n : Int) < 1 := by omega
      go_enter Tryz.func6, Tryz.ntmps6
      go_wp2_with fail
      go_ret
      rw [HWL.out]
      exact ⟨none, 0, rfl, rd_nil _ _, Below.refl _ _⟩
    · have h0i : (1 : Int) ≤ n := by omega
      have h9i : (65 : Int) < n := by omega
      go_enter Tryz.func6, Tryz.ntmps6
      go_wp2_with fail
      go_ret
      rw [HWL.out]
      exact ⟨none, 0, rfl, rd_nil _ _, Below.refl _ _⟩
end Go.Proofs.YtofnciffdhjacaaGreatDoor.lk
/- What the reference's Inode and Entry of layer 9 give. -/
namespace Go.Proofs.YtofnciffdhjacaaGreatDoor.lk
set_option maxRecDepth 100000
open Go.ChangeShapes Go.WideShapes Go.ChangeAt Go.RowKit
open Go.Proofs.YtofnciffdhjacaaGreatDoor.rows
open Go.Proofs.YtofnciffdhjacaaGreatDoor.sec
open Go.Proofs.YtofnciffdhjacaaGreatDoor.dsk (wf64)
open Go.Proofs.YtofnciffdhjacaaGreatDoor.ly
set_option linter.unusedVariables false
set_option linter.unusedSimpArgs false

theorem secAt_at {ss : List (List Int)} {k : Nat} (h : k < ss.length) : secAt ss (k : Int) = ss[k] := by
  rw [secAt, if_pos (by omega)]; simp [List.getD, h]
theorem secAt_out {ss : List (List Int)} {k : Nat} (h : ss.length ≤ k) : secAt ss (k : Int) = zero32 := by rw [secAt, if_neg (by omega)]
theorem rat_any (p : Option Addr) (n c : Nat) (ss : List (List Int)) (w : World) (h : Rd w 32 (.slice p n c) n (cellsOf ss)) (hs : Secs ss) (z : Int) (h0 : 0 ≤ z) (h9 : z ≤ 1000) (hn : n ≤ 100000) :
    Calls Tryz.prog 25 #[.slice p n c, .int .i64 z] w fun e w' => e = .returned (agg (secAt ss z)) ∧ Below w.heap.size w w' := by
  obtain ⟨k, rfl⟩ := Int.eq_ofNat_of_zero_le h0
  have hl : ss.length = n := by have h := h.cells; rw [cellsOf_len hs] at h; omega
  have A1 := Lib.hid (at_lit w)
  have hni : (n : Int) ≤ 100000 := by omega
  by_cases hk : k < n
  · obtain ⟨b, o, rfl, _, _, hb, _, hR⟩ := row_at h hs hk
    have HR := Lib.hid (Rd.rangeLater (hR k (by omega)) hb (below_alloc (Below.refl w.heap.size w) (.cells (u8s zero32).toArray 44)))
    have HS := Lib.hid (hs _ (List.getElem_mem (show k < ss.length by omega)))
    rw [secAt_at (by omega)]
    rw [← lit_zero] at HR
    generalize ss[k] = s at *
    clear hR h hs
    have hki : (k : Int) < n := by omega
    go_enter Tryz.func25, Tryz.ntmps25
    go_upto_region 1 with fail
    go_wp2_with (first | (refine load_row rfl (.tmp 12) rfl b (o + k * 32) rfl s HS.out.1 HR.out ?_) | (refine store_at rfl _ _ rfl rfl w.heap.size s zero32 rfl rfl HS.out.1 (by decide) A1.out ?_; intro w4 hA hB4 _; have A4 := Lib.hid hA; clear hA))
    refine ret_sec rfl w.heap.size _ rfl HS.out.1 A4.out rfl ⟨rfl, ?_⟩
    exact (below_alloc (Below.refl _ _) _).trans hB4
  · rw [secAt_out (by omega)]
    have hki : (n : Int) ≤ k := by omega
    clear h hs
    go_enter Tryz.func25, Tryz.ntmps25
    go_upto_region 1 with fail
    go_upto_region 2 with fail
    go_wp2_with (first | (refine store_at rfl (.tmp 4) (.tmp 9) rfl rfl w.heap.size zero32 zero32 rfl (congrArg Value.agg lit_zero) (by decide) (by decide) A1.out ?_; intro w4 hA hB4 _; have A4 := Lib.hid hA; clear hA))
    refine ret_sec rfl w.heap.size _ rfl (by decide) A4.out rfl ⟨rfl, ?_⟩
    exact (below_alloc (Below.refl _ _) _).trans hB4
theorem atI_lit (w : World) : AtI (w.alloc (.cells #[.int .i64 0, .int .i64 0, .int .i64 0, .int .i64 0, .int .i64 0, .int .i64 0] 30)) w.heap.size ino0 := atI_new w ino0
theorem atE_lit (w : World) : AtE (w.alloc (.cells #[.bool false, .int .i64 0, .string { data := #[] }, .int .i64 0] 34)) w.heap.size ent0 := atE_new w ent0
theorem ret_ino1 {fn : Func} {p : Tmp} {R : Ending → World → Prop} {a : Act} {w : World} (h : fn.results = #[.cell p 30]) (g : Nat) (x : Ino) (hp : a.tmps.getD p undef = .pointer (some ⟨g, 0, none⟩)) (hx : x.b.length = 4) (hg : AtI w g x)
    (hd : a.defers = []) (hR : R (.returned (aggI x)) w) : bodyPost Tryz.prog fn R .ret a w :=
  bodyPost_ret (results_cell_row h a.tmps w g _ _ _ _ hp hg und_ino rfl (by rw [info_ino]; simp [ino_len hx])) hd hR
theorem ret_ent1 {fn : Func} {p : Tmp} {R : Ending → World → Prop} {a : Act} {w : World} (h : fn.results = #[.cell p 34]) (g : Nat) (x : Ent) (hp : a.tmps.getD p undef = .pointer (some ⟨g, 0, none⟩)) (hg : AtE w g x)
    (hd : a.defers = []) (hR : R (.returned (aggE x)) w) : bodyPost Tryz.prog fn R .ret a w :=
  bodyPost_ret (results_cell_row h a.tmps w g _ _ _ _ hp hg und_ent rfl (by rw [info_ent]; rfl)) hd hR
/-- inode i of an image, entry k of it -/
def inoAt (ss : List (List Int)) (i : Int) : Ino := if 0 ≤ i ∧ i < 16 then inoOfV (secAt ss (1 + i)) else ino0
def entAt (ss : List (List Int)) (k : Int) : Ent := if 0 ≤ k ∧ k < 24 then entOfV (secAt ss (17 + k)) else ent0
theorem inoAt_four {ss : List (List Int)} (hs : Secs ss) (i : Int) : (inoAt ss i).b.length = 4 := by
  unfold inoAt
  split
  · exact inoOfV_four (secAt_sec hs _)
  · rfl
set_option maxHeartbeats 1600000 in
theorem rino_any (p : Option Addr) (n c : Nat) (ss : List (List Int)) (w : World) (h : Rd w 32 (.slice p n c) n (cellsOf ss)) (hs : Secs ss) (hn : n ≤ 100000) (i : Int) (hi : wf64 i) :
    Calls Tryz.prog 8 #[.slice p n c, .int .i64 i] w fun e w' => e = .returned (aggI (inoAt ss i)) ∧ Below w.heap.size w w' := by
  have A0 := Lib.hid (atI_lit w)
  have hb0 := below_alloc (Below.refl w.heap.size w) (.cells #[.int .i64 0, .int .i64 0, .int .i64 0, .int .i64 0, .int .i64 0, .int .i64 0] 30)
  have HR := h.later hb0
  obtain ⟨i1, i2⟩ := rows.wf_i64 hi
  by_cases hin : 0 ≤ i ∧ i < 16
  · have e : inoAt ss i = inoOfV (secAt ss (1 + i)) := by rw [inoAt, if_pos hin]
    rw [e]
    have HT := rat_any p n c ss _ HR hs (1 + i) (by omega) (by omega) hn
    have hS := secAt_sec hs (1 + i)
    have HI := Lib.hid fun w => rinodeOf_any (secAt ss (1 + i)) hS w
    have H4 := Lib.hid (inoOfV_four hS)
    obtain ⟨j1, j2⟩ := hin
    obtain ⟨W, hW⟩ : ∃ W, w.alloc (.cells #[.int .i64 0, .int .i64 0, .int .i64 0, .int .i64 0, .int .i64 0, .int .i64 0] 30) = W := ⟨_, rfl⟩
    rw [hW] at HT hb0 A0
    have HT' := Lib.hid HT
    have HB0 := Lib.hid hb0
    generalize inoOfV (secAt ss (1 + i)) = x at *
    generalize inoOfB (secAt ss (1 + i)) = xb at *
    generalize secAt ss (1 + i) = s at *
    clear HT HR h hs hS e hb0
    go_enter Tryz.func8, Tryz.ntmps8
    go_upto_region 1 with fail
    clear hW
    go_wp2_with (first | (go_at_call 25; refine HT'.out.mono ?_; rintro e w1 ⟨rfl, hb⟩; have B1 := Lib.hid (below_trans HB0.out hb); have A1 := Lib.hid (A0.out.later hb); clear hb) | (go_at_call 24; refine (HI.out _).mono ?_; rintro e w2 ⟨rfl, hb⟩; have B2 := Lib.hid (below_trans B1.out hb); have A2 := Lib.hid (A1.out.later hb); clear hb) | (refine store_ino rfl (.tmp 5) (.tmp 20) rfl rfl w2.heap.size x ino0 rfl rfl H4.out rfl (atI_lit w2) ?_; intro w3 hA hB _; have hb := (below_alloc (Below.refl _ w2) _).trans hB; have B3 := Lib.hid (below_trans B2.out hb); have A3 := Lib.hid (A2.out.later hb); have X3 := Lib.hid hA; clear hA hB hb) | (refine load_ino rfl (.tmp 5) rfl w2.heap.size rfl x H4.out X3.out ?_) | (refine store_ino rfl (.tmp 4) (.tmp 22) rfl rfl w.heap.size x ino0 rfl rfl H4.out rfl A3.out ?_; intro w4 hA hB _; have A4 := Lib.hid hA; have B4 := Lib.hid (B3.out.trans hB); clear hA hB))
    exact ret_ino1 rfl w.heap.size x rfl H4.out A4.out rfl ⟨rfl, B4.out⟩
  · have e : inoAt ss i = ino0 := by rw [inoAt, if_neg hin]
    rw [e]
    clear HR h hs e
    by_cases hz : i < 0
    · go_enter Tryz.func8, Tryz.ntmps8
      go_wp2_with fail
      exact ret_ino1 rfl w.heap.size ino0 rfl rfl A0.out rfl ⟨rfl, hb0⟩
    · have hz2 : 16 ≤ i := by omega
      have hz0 : 0 ≤ i := by omega
      go_enter Tryz.func8, Tryz.ntmps8
      go_wp2_with fail
      exact ret_ino1 rfl w.heap.size ino0 rfl rfl A0.out rfl ⟨rfl, hb0⟩
set_option maxHeartbeats 1600000 in
theorem rent_any (p : Option Addr) (n c : Nat) (ss : List (List Int)) (w : World) (h : Rd w 32 (.slice p n c) n (cellsOf ss)) (hs : Secs ss) (hn : n ≤ 100000) (i : Int) (hi : wf64 i) :
    Calls Tryz.prog 10 #[.slice p n c, .int .i64 i] w fun e w' => e = .returned (aggE (entAt ss i)) ∧ Below w.heap.size w w' := by
  have A0 := Lib.hid (atE_lit w)
  have hb0 := below_alloc (Below.refl w.heap.size w) (.cells #[.bool false, .int .i64 0, .string { data := #[] }, .int .i64 0] 34)
  have HR := h.later hb0
  obtain ⟨i1, i2⟩ := rows.wf_i64 hi
  by_cases hin : 0 ≤ i ∧ i < 24
  · have e : entAt ss i = entOfV (secAt ss (17 + i)) := by rw [entAt, if_pos hin]
    rw [e]
    have HT := rat_any p n c ss _ HR hs (17 + i) (by omega) (by omega) hn
    have hS := secAt_sec hs (17 + i)
    have HI := Lib.hid fun w => rentryOf_any (secAt ss (17 + i)) hS w
    obtain ⟨j1, j2⟩ := hin
    obtain ⟨W, hW⟩ : ∃ W, w.alloc (.cells #[.bool false, .int .i64 0, .string { data := #[] }, .int .i64 0] 34) = W := ⟨_, rfl⟩
    rw [hW] at HT hb0 A0
    have HT' := Lib.hid HT
    have HB0 := Lib.hid hb0
    generalize entOfV (secAt ss (17 + i)) = x at *
    generalize entOfB (secAt ss (17 + i)) = xb at *
    generalize secAt ss (17 + i) = s at *
    clear HT HR h hs hS e hb0
    go_enter Tryz.func10, Tryz.ntmps10
    go_upto_region 1 with fail
    clear hW
    go_wp2_with (first | (go_at_call 25; refine HT'.out.mono ?_; rintro e w1 ⟨rfl, hb⟩; have B1 := Lib.hid (below_trans HB0.out hb); have A1 := Lib.hid (A0.out.later hb); clear hb) | (go_at_call 27; refine (HI.out _).mono ?_; rintro e w2 ⟨rfl, hb⟩; have B2 := Lib.hid (below_trans B1.out hb); have A2 := Lib.hid (A1.out.later hb); clear hb) | (refine store_ent rfl (.tmp 5) (.tmp 20) rfl rfl w2.heap.size x ent0 rfl rfl (atE_lit w2) ?_; intro w3 hA hB _; have hb := (below_alloc (Below.refl _ w2) _).trans hB; have B3 := Lib.hid (below_trans B2.out hb); have A3 := Lib.hid (A2.out.later hb); have X3 := Lib.hid hA; clear hA hB hb) | (refine load_ent rfl (.tmp 5) rfl w2.heap.size rfl x X3.out ?_) | (refine store_ent rfl (.tmp 4) (.tmp 22) rfl rfl w.heap.size x ent0 rfl rfl A3.out ?_; intro w4 hA hB _; have A4 := Lib.hid hA; have B4 := Lib.hid (B3.out.trans hB); clear hA hB))
    exact ret_ent1 rfl w.heap.size x rfl A4.out rfl ⟨rfl, B4.out⟩
  · have e : entAt ss i = ent0 := by rw [entAt, if_neg hin]
    rw [e]
    clear HR h hs e
    by_cases hz : i < 0
    · go_enter Tryz.func10, Tryz.ntmps10
      go_wp2_with fail
      exact ret_ent1 rfl w.heap.size ent0 rfl A0.out rfl ⟨rfl, hb0⟩
    · have hz2 : 24 ≤ i := by omega
      have hz0 : 0 ≤ i := by omega
      go_enter Tryz.func10, Tryz.ntmps10
      go_wp2_with fail
      exact ret_ent1 rfl w.heap.size ent0 rfl A0.out rfl ⟨rfl, hb0⟩
end Go.Proofs.YtofnciffdhjacaaGreatDoor.lk
/- What the reference's Taken of layer 9 gives. -/
namespace Go.Proofs.YtofnciffdhjacaaGreatDoor.lk
set_option maxRecDepth 100000
open Go.ChangeShapes Go.WideShapes Go.ChangeAt Go.RowKit
open Go.Proofs.YtofnciffdhjacaaGreatDoor.rows
open Go.Proofs.YtofnciffdhjacaaGreatDoor.sec
open Go.Proofs.YtofnciffdhjacaaGreatDoor.dsk (wf64)
open Go.Proofs.YtofnciffdhjacaaGreatDoor.ly
set_option linter.unusedVariables false
set_option linter.unusedSimpArgs false

/-- does one of the first k entries name inode i? -/
def namedIn (ss : List (List Int)) (i : Int) (k : Nat) : Bool := (List.range k).any fun j => (entAt ss (j : Int)).used && decide ((entAt ss (j : Int)).target = i)
theorem namedIn_succ (ss : List (List Int)) (i : Int) (k : Nat) : namedIn ss i (k + 1) = (namedIn ss i k || ((entAt ss (k : Int)).used && decide ((entAt ss (k : Int)).target = i))) := by
  rw [namedIn, List.range_succ, List.any_append]; simp [namedIn]
theorem namedIn_more {ss : List (List Int)} {i : Int} {k : Nat} (h : namedIn ss i k = true) : ∀ m, k ≤ m → namedIn ss i m = true
  | 0, hm => by obtain rfl : k = 0 := by omega
                exact h
  | m + 1, hm => by
    by_cases e : k = m + 1
    · rw [← e]; exact h
    · rw [namedIn_succ, namedIn_more h m (by omega)]; rfl
def takenB (ss : List (List Int)) (i : Int) : Bool := namedIn ss i 24 || decide (i = 0)
set_option maxHeartbeats 1600000 in
theorem rtaken_any (p : Option Addr) (n c : Nat) (ss : List (List Int)) (w : World) (h : Rd w 32 (.slice p n c) n (cellsOf ss)) (hs : Secs ss) (hn : n ≤ 100000) (i : Int) (hi : wf64 i) :
    Calls Tryz.prog 12 #[.slice p n c, .int .i64 i] w fun e w' => e = .returned (.bool (takenB ss i)) ∧ Below w.heap.size w w' := by
  have HE := Lib.hid fun (k : Nat) (hk : k ≤ 24) w' (hb : Below w.heap.size w w') => rent_any p n c ss w' (h.later hb) hs hn (k : Int) (WalkArith.wf_i64 (by omega))
  obtain ⟨i1, i2⟩ := rows.wf_i64 hi
  clear h hs hi
  go_enter Tryz.func12, Tryz.ntmps12
  go_wp2_with fail
  go_loopw [5] (fun kv wr => ∃ k : Nat, k ≤ 24 ∧ kv = .int .i64 (k : Int) ∧ Hid (namedIn ss i k = false) ∧ Hid (Below w.heap.size w wr)) (fun kv _ => 24 - (intOf kv).toNat)
  case atStart => exact ⟨0, by omega, rfl, Lib.hid rfl, Lib.hid (Below.refl _ _)⟩
  case round =>
    obtain ⟨k, hk, rfl, HN, HB⟩ := hrel
    by_cases hlt : k < 24
    · have hlti : (k : Int) < 24 := by omega
      have HEk := Lib.hid (HE.out k (by omega) wr HB.out)
      have HS := Lib.hid (namedIn_succ ss i k)
      have HM := Lib.hid fun h => namedIn_more (ss := ss) (i := i) (k := k + 1) h 24 (by omega)
      generalize entAt ss (k : Int) = x at HEk HS
      obtain ⟨u, pa, nm, tg⟩ := x
      simp only at HEk HS
      cases u with
      | false =>
        have HN1 : Hid (namedIn ss i (k + 1) = false) := Lib.hid (by rw [HS.out, HN.out]; rfl)
        clear HS
        go_wp2_with (go_at_call 10; refine HEk.out.mono ?_; rintro e w1 ⟨rfl, hb⟩; have B1 := Lib.hid (below_trans HB.out hb); clear hb)
        go_roundw
        case rel => exact ⟨k + 1, by omega, by go_num, HN1, Lib.hid (below_alloc B1.out _)⟩
        case measure => simp [intOf]; omega
      | true =>
        by_cases ht : tg = i
        · have HT : Hid (takenB ss i = true) := Lib.hid (by rw [takenB, HM.out (by rw [HS.out, ht]; simp)]; rfl)
          have hte : (tg == i) = true := by rw [ht]; simp
          subst ht
          clear HS HM
          go_wp2_with (go_at_call 10; refine HEk.out.mono ?_; rintro e w1 ⟨rfl, hb⟩; have B1 := Lib.hid (below_trans HB.out hb); clear hb)
          go_ret
          exact ⟨by rw [HT.out]; rfl, below_alloc B1.out _⟩
        · have HN1 : Hid (namedIn ss i (k + 1) = false) := Lib.hid (by rw [HS.out, HN.out, decide_eq_false ht]; rfl)
          have hte : (tg == i) = false := beq_eq_false_iff_ne.2 ht
          clear HS HM ht
          go_wp2_with (go_at_call 10; refine HEk.out.mono ?_; rintro e w1 ⟨rfl, hb⟩; have B1 := Lib.hid (below_trans HB.out hb); clear hb)
          go_roundw
          case rel => exact ⟨k + 1, by omega, by go_num, HN1, Lib.hid (below_alloc B1.out _)⟩
          case measure => simp [intOf]; omega
    · obtain rfl : k = 24 := by omega
      have HT : Hid (takenB ss i = decide (i = 0)) := Lib.hid (by rw [takenB, HN.out]; rfl)
      go_wp2_with fail
      go_ret
      exact ⟨by rw [HT.out, show decide (i = 0) = (i == 0) by rw [Bool.eq_iff_iff]; simp]; rfl, HB.out⟩
end Go.Proofs.YtofnciffdhjacaaGreatDoor.lk
/- LookReads' walk, over what the code's functions give. -/
namespace Go.Proofs.YtofnciffdhjacaaGreatDoor.lk
set_option maxRecDepth 100000
open Go.ChangeShapes Go.WideShapes Go.ChangeAt Go.RowKit
open Go.Proofs.YtofnciffdhjacaaGreatDoor.rows
open Go.Proofs.YtofnciffdhjacaaGreatDoor.sec
open Go.Proofs.YtofnciffdhjacaaGreatDoor.dsk (wf64 Wr Wr.ok Wr.c Wr.c_len wrsC)
open Go.Proofs.YtofnciffdhjacaaGreatDoor.ly
set_option linter.unusedVariables false
set_option linter.unusedSimpArgs false

/-- what is asked of the code's functions that LookReads compares -/
structure ReadsIs : Prop where
  inode : ∀ (w : World) (d : Value) (ss : List (List Int)) (i : Int), Dk w d ss → wf64 i → Calls Tryz.prog 7 #[d, .int .i64 i] w fun e w' => e = .returned (aggI (inoAt ss i)) ∧ Below w.heap.size w w'
  entry : ∀ (w : World) (d : Value) (ss : List (List Int)) (i : Int), Dk w d ss → wf64 i → Calls Tryz.prog 9 #[d, .int .i64 i] w fun e w' => e = .returned (aggE (entAt ss i)) ∧ Below w.heap.size w w'
  taken : ∀ (w : World) (d : Value) (ss : List (List Int)) (i : Int), Dk w d ss → wf64 i → Calls Tryz.prog 11 #[d, .int .i64 i] w fun e w' => e = .returned (.bool (takenB ss i)) ∧ Below w.heap.size w w'
  mounted : ∀ (w : World) (d : Value) (ss : List (List Int)), Dk w d ss → Calls Tryz.prog 13 #[d] w fun e w' => e = .returned (.bool (mountsB ss)) ∧ Below w.heap.size w w'
theorem withL_secs {ss : List (List Int)} {ws : List Wr} (hs : Secs ss) (hw : ∀ x ∈ ws, x.ok) : Secs (withL ss ws) := by
  unfold withL
  split
  · exact over_secs hs hw _ (Nat.le_refl _)
  · intro s h; cases h
theorem withL_len (ss : List (List Int)) (ws : List Wr) : (withL ss ws).length ≤ 65 := by
  unfold withL
  split
  · rw [over_len ss ws _ (Nat.le_refl _)]; omega
  · exact Nat.zero_le _
set_option maxRecDepth 100000 in
set_option maxHeartbeats 3200000 in
theorem reads_of (C : ReadsIs) (w : World) (HKN : ∀ w', Below w.heap.size w w' → Calls Tryz.prog 4 #[] w' fun e w'' => e = .returned (.bool true) ∧ Below w'.heap.size w' w'')
    (p : Option Addr) (n c : Nat) (ss : List (List Int)) (p2 : Option Addr) (m c2 : Nat) (ws : List Wr) (i : Int) (hi : wf64 i) (k : Int) (hk : wf64 k) (h1 : Rd w 32 (.slice p n c) n (cellsOf ss)) (hn : n ≤ maxLen) (hs : Secs ss)
    (h2 : Rd w 36 (.slice p2 m c2) m (wrsC ws)) (hm : m ≤ maxLen) (hok : ∀ x ∈ ws, x.ok) :
    Calls Tryz.prog 3 #[.slice p n c, .slice p2 m c2, .int .i64 i, .int .i64 k] w fun e w' => e = .returned (.bool true) ∧ Below w.heap.size w w' := by
  have HK := Lib.hid HKN
  have hn9 : (n : Int) ≤ 9223372036854775807 := by unfold maxLen at hn; omega
  have hm9 : (m : Int) ≤ 9223372036854775807 := by unfold maxLen at hm; omega
  clear HKN
  by_cases hbig : 200 < n ∨ 40 < m
  · have h3 : 200 < n ∨ (n ≤ 200 ∧ 40 < m) := by omega
    clear h1 h2 hbig hs hok
    rcases h3 with h | ⟨h, h'⟩
    all_goals
      first | (have j1 : (200 : Int) < n := by omega) | (have j1 : (n : Int) ≤ 200 := by omega)
      first | (have j2 : (40 : Int) < m := by omega) | skip
      clear hn hm
      go_enter Tryz.func3, Tryz.ntmps3
      go_wp2_with (go_at_call 4; refine (HK.out _ (Below.refl _ _)).mono ?_; rintro e w2 ⟨rfl, hb2⟩)
      go_ret
      exact ⟨rfl, hb2⟩
  · have j1 : (n : Int) ≤ 200 := by omega
    have j2 : (m : Int) ≤ 40 := by omega
    have HD := Lib.hid fun w' (hb : Below w.heap.size w w') => disk_any p n c ss p2 m c2 ws w' (h1.later hb) hs (by omega) (h2.later hb) hok (by omega)
    have HW := Lib.hid fun w' (hb : Below w.heap.size w w') => with_any p n c ss p2 m c2 ws w' (h1.later hb) hs (by omega) (h2.later hb) hok (by omega)
    have HS := Lib.hid (withL_secs hs hok)
    have HL := Lib.hid (withL_len ss ws)
    generalize withL ss ws = l at *
    have HC := Lib.hid C
    have HI := Lib.hid hi
    have HKK := Lib.hid hk
    have hq1 : ∀ w, (Op.equalIn 10000 30 (aggI (inoAt l i)) (aggI (inoAt l i))).run Tryz.prog w = .ok true w := fun w => (eqIn_ino w (inoAt_four HS.out i) (inoAt_four HS.out i)).trans (by rw [decide_eq_true rfl])
    have hq2 : ∀ w, (Op.equalIn 10000 34 (aggE (entAt l k)) (aggE (entAt l k))).run Tryz.prog w = .ok true w := fun w => eqIn_ent_self w _
    have C1 := Lib.hid fun w' d (hd : Dk w' d l) => HC.out.inode w' d l i hd HI.out
    have C2 := Lib.hid fun w' d (hd : Dk w' d l) => HC.out.entry w' d l k hd HKK.out
    have C3 := Lib.hid fun w' d (hd : Dk w' d l) => HC.out.taken w' d l i hd HI.out
    have C4 := Lib.hid fun w' d (hd : Dk w' d l) => HC.out.mounted w' d l hd
    have R1 := Lib.hid fun w' q c (hr : Rd w' 32 (.slice q l.length c) l.length (cellsOf l)) => rino_any q l.length c l w' hr HS.out (by have := HL.out; omega) i HI.out
    have R2 := Lib.hid fun w' q c (hr : Rd w' 32 (.slice q l.length c) l.length (cellsOf l)) => rent_any q l.length c l w' hr HS.out (by have := HL.out; omega) k HKK.out
    have R3 := Lib.hid fun w' q c (hr : Rd w' 32 (.slice q l.length c) l.length (cellsOf l)) => rtaken_any q l.length c l w' hr HS.out (by have := HL.out; omega) i HI.out
    have R4 := Lib.hid fun w' q c (hr : Rd w' 32 (.slice q l.length c) l.length (cellsOf l)) => rmounts_any q l.length c l w' HS.out hr (by have := HL.out; unfold maxLen; omega)
    generalize inoAt l i = xi at *
    generalize entAt l k = xk at *
    generalize takenB l i = tb at *
    generalize mountsB l = mb at *
    clear h1 h2 hbig hs hok hn hm C hi hk
    go_enter Tryz.func3, Tryz.ntmps3
    go_wp2_with (first
      | (go_at_call 4; refine (HK.out _ (Below.refl _ _)).mono ?_; rintro e w1 ⟨rfl, hb⟩; have B1 := Lib.hid hb; clear hb)
      | (go_at_call 5; refine (HD.out _ B1.out).mono ?_; rintro e w2 ⟨d, rfl, hd, hb⟩; have B2 := Lib.hid (below_trans B1.out hb); have D2 := Lib.hid hd; clear hb hd)
      | (go_at_call 6; refine (HW.out _ B2.out).mono ?_; rintro e w3 ⟨q, cq, rfl, hr, hb⟩; have B3 := Lib.hid (below_trans B2.out hb); have D3 := Lib.hid (D2.out.later hb); have R_3 := Lib.hid hr; clear hb hr)
      | (go_at_call 7; refine (C1.out _ _ D3.out).mono ?_; rintro e w4 ⟨rfl, hb⟩; have B4 := Lib.hid (below_trans B3.out hb); have D4 := Lib.hid (D3.out.later hb); have R_4 := Lib.hid (R_3.out.later hb); clear hb)
      | (go_at_call 8; refine (R1.out _ _ _ R_4.out).mono ?_; rintro e w5 ⟨rfl, hb⟩; have B5 := Lib.hid (below_trans B4.out hb); have D5 := Lib.hid (D4.out.later hb); have R_5 := Lib.hid (R_4.out.later hb); clear hb)
      | (go_at_call 9; refine (C2.out _ _ D5.out).mono ?_; rintro e w6 ⟨rfl, hb⟩; have B6 := Lib.hid (below_trans B5.out hb); have D6 := Lib.hid (D5.out.later hb); have R_6 := Lib.hid (R_5.out.later hb); clear hb)
      | (go_at_call 10; refine (R2.out _ _ _ R_6.out).mono ?_; rintro e w7 ⟨rfl, hb⟩; have B7 := Lib.hid (below_trans B6.out hb); have D7 := Lib.hid (D6.out.later hb); have R_7 := Lib.hid (R_6.out.later hb); clear hb)
      | (go_at_call 11; refine (C3.out _ _ D7.out).mono ?_; rintro e w8 ⟨rfl, hb⟩; have B8 := Lib.hid (below_trans B7.out hb); have D8 := Lib.hid (D7.out.later hb); have R_8 := Lib.hid (R_7.out.later hb); clear hb)
      | (go_at_call 12; refine (R3.out _ _ _ R_8.out).mono ?_; rintro e w9 ⟨rfl, hb⟩; have B9 := Lib.hid (below_trans B8.out hb); have D9 := Lib.hid (D8.out.later hb); have R_9 := Lib.hid (R_8.out.later hb); clear hb)
      | (go_at_call 13; refine (C4.out _ _ D9.out).mono ?_; rintro e w10 ⟨rfl, hb⟩; have B10 := Lib.hid (below_trans B9.out hb); have R_10 := Lib.hid (R_9.out.later hb); clear hb)
      | (go_at_call 14; refine (R4.out _ _ _ R_10.out).mono ?_; rintro e w11 ⟨rfl, hb⟩; have B11 := Lib.hid (below_trans B10.out hb); clear hb))
    go_ret
    exact ⟨by simp, B11.out⟩
end Go.Proofs.YtofnciffdhjacaaGreatDoor.lk
/- knows of layer 9, over what the code's functions give. -/
namespace Go.Proofs.YtofnciffdhjacaaGreatDoor.lk
set_option maxRecDepth 100000
open Go.ChangeShapes Go.WideShapes Go.ChangeAt Go.RowKit
open Go.Proofs.YtofnciffdhjacaaGreatDoor.rows
open Go.Proofs.YtofnciffdhjacaaGreatDoor.sec
open Go.Proofs.YtofnciffdhjacaaGreatDoor.dsk (wf64 Wr Wr.ok Wr.c Wr.c_len wrsC elem_wrs)
open Go.Proofs.YtofnciffdhjacaaGreatDoor.ly
open Go.Proofs.YtofnciffdhjacaaGreatDoor.pa (Mx)
set_option linter.unusedVariables false
set_option linter.unusedSimpArgs false

def sA : List Int := [1, 0, 2, 1, 0, 0, 0, 0, 0, 0, 0, 0, 0, 0, 0, 0, 97] ++ List.replicate 15 0
def sF : List Int := 1 :: List.replicate 31 0
def kw1 : Wr := ⟨17, sA, 0, 0, 0⟩
def kw2 : Wr := ⟨3, sF, 0, 0, 0⟩
def kws : List Wr := [kw1, kw2]
def knImg : List (List Int) := withL emptyImg kws
theorem sA_is : Sec sA := ⟨by decide, by decide⟩
theorem sF_is : Sec sF := ⟨by decide, by decide⟩
theorem kws_ok : ∀ x ∈ kws, x.ok := by
  intro x hx
  rcases List.mem_cons.1 hx with rfl | hx
  · exact ⟨sA_is, WalkArith.wf_i64 (by decide), WalkArith.wf_i64 (by decide), WalkArith.wf_i64 (by decide), WalkArith.wf_i64 (by decide)⟩
  · rw [List.mem_singleton.1 hx]; exact ⟨sF_is, WalkArith.wf_i64 (by decide), WalkArith.wf_i64 (by decide), WalkArith.wf_i64 (by decide), WalkArith.wf_i64 (by decide)⟩
theorem kn_mounts : mountsB knImg = true := by decide +kernel
theorem kn_ent : entAt knImg 0 = ⟨true, 0, { data := #[97] }, 2⟩ := by kernel_rfl
theorem kn_taken : takenB knImg 2 = true := by
  have h : namedIn knImg 2 1 = true := by
    rw [namedIn_succ]
    show (namedIn knImg 2 0 || ((entAt knImg 0).used && decide ((entAt knImg 0).target = 2))) = true
    rw [kn_ent]
    rfl
  rw [takenB, namedIn_more h 24 (by omega)]
  rfl
theorem build_kws {ops : Array Oper} {rest : List Oper} {o : Oper} {a : Act} {w : World} {Q : Exit → Act → World → Prop} (hgd : o.guard = none) (x y : Operand) (ho : o.op = .buildSlice 23 2 #[(0, x), (1, y)])
    (hx : a.eval x = .agg kw1.c.toArray) (hy : a.eval y = .agg kw2.c.toArray) (h : wpList Tryz.prog ops Q rest (a.put o.dst (.slice (some ⟨w.heap.size, 0, none⟩) 2 2)) (w.alloc (.cells (wrsC kws).toArray 48))) : wpList Tryz.prog ops Q (o :: rest) a w := by
  obtain ⟨ie, hi, hz0, hz1, hz2⟩ := info_parts elem_wrs.info
  refine wpList_plain hgd fun K hK => wp_buildSlice 23 48 2 #[(0, x), (1, y)] ho (wrsC kws).toArray ie _ elem_wrs.und hi hz0 (by rw [hz1]; omega) (by rw [hz1]; omega) ?_ (hK _ _ h)
  rw [hz1]
  simp only [List.map_toArray, List.map_cons, List.map_nil, hx, hy]
  kernel_rfl
theorem kws_rd (w : World) : Rd (w.alloc (.cells (wrsC kws).toArray 48)) 36 (.slice (some ⟨w.heap.size, 0, none⟩) 2 2) 2 (wrsC kws) := by
  refine Or.inr ⟨w.heap.size, 0, 2, rfl, by omega, Nat.le_refl _, by unfold maxLen; omega, by simp, by kernel_rfl, fun i u hi => ?_⟩
  rw [Nat.zero_add, World.cell?_alloc_new]
  simpa using hi
/-- what is asked of the code on the disk of knows -/
structure KnownIs : Prop where
  lookA : ∀ (w : World) (d : Value), Mx w → Dk w d knImg → Calls Tryz.prog 16 #[d, .string { data := #[47, 97] }] w fun e w' => e = .returned (.tuple #[.int .i64 2, .int .i64 0]) ∧ Below w.heap.size w w'
  lookB : ∀ (w : World) (d : Value), Mx w → Dk w d knImg → Calls Tryz.prog 16 #[d, .string { data := #[47, 98] }] w fun e w' => e = .returned (.tuple #[.int .i64 0, .int .i64 4]) ∧ Below w.heap.size w w'
  find : ∀ (w : World) (d : Value), Dk w d knImg → Calls Tryz.prog 17 #[d, .int .i64 0, .string { data := #[97] }] w fun e w' => e = .returned (.tuple #[.int .i64 0, .bool true]) ∧ Below w.heap.size w w'
  list : ∀ (w : World) (d : Value), Dk w d knImg → Calls Tryz.prog 19 #[d, .int .i64 0] w fun e w' => (∃ p c, e = .returned (.slice p 1 c)) ∧ Below w.heap.size w w'
theorem num09 (n : Int) (w : World) : Calls Tryz.prog 18 #[.int .i64 n] w fun e w' => e = .returned (.int .i64 n) ∧ w = w' := by
  go_enter Tryz.func18, Tryz.ntmps18
  go_wp2
  go_ret
  exact ⟨rfl, rfl⟩
theorem kn_ino2 : inoAt knImg 2 = ⟨1, 0, [0, 0, 0, 0]⟩ := by kernel_rfl
set_option maxRecDepth 100000 in
set_option maxHeartbeats 3200000 in
theorem knows_of (C : ReadsIs) (K : KnownIs) (w : World) (hmx : Mx w) : Calls Tryz.prog 4 #[] w fun e w' => e = .returned (.bool true) ∧ Below w.heap.size w w' := by
  have KI := Lib.hid fun w' d (hd : Dk w' d knImg) => by
    have h := C.inode w' d knImg 2 hd (WalkArith.wf_i64 (by omega))
    rw [kn_ino2] at h
    exact (show Calls Tryz.prog 7 #[d, .int .i64 2] w' fun e w'' => e = .returned (.agg #[.int .i64 1, .int .i64 0, .int .i64 0, .int .i64 0, .int .i64 0, .int .i64 0]) ∧ Below w'.heap.size w' w'' from h)
  have KE := Lib.hid fun w' d (hd : Dk w' d knImg) => by
    have h := C.entry w' d knImg 0 hd (WalkArith.wf_i64 (by omega))
    rw [kn_ent] at h
    exact (show Calls Tryz.prog 9 #[d, .int .i64 0] w' fun e w'' => e = .returned (.agg #[.bool true, .int .i64 0, .string { data := #[97] }, .int .i64 2]) ∧ Below w'.heap.size w' w'' from h)
  have KT := Lib.hid fun w' d (hd : Dk w' d knImg) => by
    have h := C.taken w' d knImg 2 hd (WalkArith.wf_i64 (by omega))
    rw [kn_taken] at h
    exact h
  have KM := Lib.hid fun w' d (hd : Dk w' d knImg) => by
    have h := C.mounted w' d knImg hd
    rw [kn_mounts] at h
    exact h
  have HK := Lib.hid K
  have HM := Lib.hid hmx
  clear C K hmx
  go_enter Tryz.func4, Tryz.ntmps4
  go_upto_region 2 with (first
    | (go_at_call 15; refine (rempty_any _).mono ?_; rintro e w1 ⟨p1, c1, rfl, hr, hb⟩; have B1 := Lib.hid hb; have R1 := Lib.hid hr; clear hb hr)
    | (refine wpList_buildTo rfl 44 #[(0, .const (.int .u8 1)), (1, .const (.int .u8 0)), (2, .const (.int .u8 2)), (3, .const (.int .u8 1)), (16, .const (.int .u8 97))] rfl (some 9) rfl (u8s sA).toArray (by kernel_rfl) ?_)
    | (refine wpList_buildTo rfl 48 #[(0, .const (.int .i64 17)), (1, .tmp 9)] rfl (some 10) rfl kw1.c.toArray (by kernel_rfl) ?_)
    | (refine wpList_buildTo rfl 44 #[(0, .const (.int .u8 1))] rfl (some 11) rfl (u8s sF).toArray (by kernel_rfl) ?_)
    | (refine wpList_buildTo rfl 48 #[(0, .const (.int .i64 3)), (1, .tmp 11)] rfl (some 12) rfl kw2.c.toArray (by kernel_rfl) ?_)
    | (refine build_kws rfl (.tmp 10) (.tmp 12) rfl rfl rfl ?_)
    | (go_at_call 5; refine (disk_any p1 65 c1 emptyImg _ 2 2 kws _ (R1.out.later (below_alloc (Below.refl _ _) _)) emptyImg_secs (by omega) (kws_rd _) kws_ok (by omega)).mono ?_; rintro e w2 ⟨d, rfl, hd, hb⟩; have B2 := Lib.hid (below_trans B1.out (below_trans (below_alloc (Below.refl _ _) _) hb)); have D2 : Hid (Dk w2 d knImg) := Lib.hid hd; clear hb hd))
  clear B1 R1
  have hf1 : ∀ w : World, (Instr.field 30 (.agg #[.int .i64 1, .int .i64 0, .int .i64 0, .int .i64 0, .int .i64 0, .int .i64 0]) 0).run Tryz.prog w = .ok (.int .i64 1) w := fun _ => by kernel_rfl
  have hf2 : ∀ w : World, (Instr.field 34 (.agg #[.bool true, .int .i64 0, .string { data := #[97] }, .int .i64 2]) 2).run Tryz.prog w = .ok (.string { data := #[97] }) w := fun _ => by kernel_rfl
  go_wp2_with (first
    | (go_at_call 18; refine (num09 _ _).mono ?_; rintro e wz ⟨rfl, rfl⟩)
    | (go_at_call 16; with_reducible refine (HK.out.lookA _ _ (HM.out.later B2.out) D2.out).mono ?_; rintro e w3 ⟨rfl, hb⟩; have B3 := Lib.hid (below_trans B2.out hb); have D3 := Lib.hid (D2.out.later hb); clear hb)
    | (go_at_call 17; refine (HK.out.find _ _ D3.out).mono ?_; rintro e w4 ⟨rfl, hb⟩; have B4 := Lib.hid (below_trans B3.out hb); have D4 := Lib.hid (D3.out.later hb); clear hb)
    | (go_at_call 16; with_reducible refine (HK.out.lookB _ _ (HM.out.later B4.out) D4.out).mono ?_; rintro e w5 ⟨rfl, hb⟩; have B5 := Lib.hid (below_trans B4.out hb); have D5 := Lib.hid (D4.out.later hb); clear hb)
    | (go_at_call 13; refine (KM.out _ _ D5.out).mono ?_; rintro e w6 ⟨rfl, hb⟩; have B6 := Lib.hid (below_trans B5.out hb); have D6 := Lib.hid (D5.out.later hb); clear hb)
    | (go_at_call 19; refine (HK.out.list _ _ D6.out).mono ?_; rintro e w7 ⟨⟨p7, c7, rfl⟩, hb⟩; have B7 := Lib.hid (below_trans B6.out hb); have D7 := Lib.hid (D6.out.later hb); clear hb)
    | (go_at_call 11; refine (KT.out _ _ D7.out).mono ?_; rintro e w8 ⟨rfl, hb⟩; have B8 := Lib.hid (below_trans B7.out hb); have D8 := Lib.hid (D7.out.later hb); clear hb)
    | (go_at_call 7; refine (KI.out _ _ D8.out).mono ?_; rintro e w9 ⟨rfl, hb⟩; have B9 := Lib.hid (below_trans B8.out hb); have D9 := Lib.hid (D8.out.later hb); clear hb)
    | (go_at_call 9; refine (KE.out _ _ D9.out).mono ?_; rintro e w10 ⟨rfl, hb⟩; have B10 := Lib.hid (below_trans B9.out hb); clear hb))
  go_ret
  exact ⟨rfl, B10.out⟩
end Go.Proofs.YtofnciffdhjacaaGreatDoor.lk
/- The lowest number of which a test tells yes. -/
namespace Go.Proofs.YtofnciffdhjacaaGreatDoor.lk
set_option maxRecDepth 100000
open Go.ChangeShapes Go.WideShapes Go.ChangeAt Go.RowKit
set_option linter.unusedVariables false
set_option linter.unusedSimpArgs false

/-- the lowest number below k of which p tells yes -/
def upto (p : Nat → Bool) (k : Nat) : Option Nat := (List.range k).find? p
theorem upto_zero (p : Nat → Bool) : upto p 0 = none := rfl
theorem upto_succ (p : Nat → Bool) (k : Nat) : upto p (k + 1) = (upto p k).or (if p k then some k else none) := by
  rw [upto, List.range_succ, List.find?_append]
  cases h : p k <;> simp [upto, h]
theorem upto_hit {p : Nat → Bool} {k : Nat} (h : upto p k = none) (hk : p k = true) : ∀ m, k < m → upto p m = some k
  | 0, hm => by omega
  | m + 1, hm => by
    rw [upto_succ]
    by_cases e : k = m
    · subst e; rw [h, hk]; rfl
    · rw [upto_hit h hk m (by omega)]; rfl
theorem upto_none {p : Nat → Bool} {k : Nat} : upto p k = none ↔ ∀ i, i < k → p i = false := by
  simp [upto, List.find?_eq_none]
theorem upto_some {p : Nat → Bool} {k i : Nat} (h : upto p k = some i) : i < k ∧ p i = true ∧ ∀ j, j < i → p j = false := by
  induction k with
  | zero => cases h
  | succ k ih =>
    rw [upto_succ] at h
    cases hu : upto p k with
    | some j =>
      rw [hu] at h
      obtain rfl : j = i := Option.some.inj h
      obtain ⟨h1, h2, h3⟩ := ih hu
      exact ⟨by omega, h2, h3⟩
    | none =>
      rw [hu] at h
      cases hk : p k with
      | false => rw [hk] at h; cases h
      | true =>
        rw [hk] at h
        obtain rfl : k = i := Option.some.inj h
        exact ⟨by omega, hk, upto_none.1 hu⟩
def optV (o : Option Nat) : Value := .tuple #[.int .i64 ((o.getD 0 : Nat) : Int), .bool o.isSome]
end Go.Proofs.YtofnciffdhjacaaGreatDoor.lk
/- Layer 9: by which entry a name stands in a folder, and what is at a path; what the reference's functions give. -/
namespace Go.Proofs.YtofnciffdhjacaaGreatDoor.lk
set_option maxRecDepth 100000
open Go.ChangeShapes Go.WideShapes Go.ChangeAt Go.RowKit
open Go.Proofs.YtofnciffdhjacaaGreatDoor.rows
open Go.Proofs.YtofnciffdhjacaaGreatDoor.sec
open Go.Proofs.YtofnciffdhjacaaGreatDoor.dsk (wf64 cell_row frozen_row row_later)
open Go.Proofs.YtofnciffdhjacaaGreatDoor.ly
open Go.Proofs.YtofnciffdhjacaaGreatDoor.pa
set_option linter.unusedVariables false
set_option linter.unusedSimpArgs false

/-- does a name stand by entry k? -/
def standB (ss : List (List Int)) (k : Nat) : Bool := (entAt ss (k : Int)).used && !decide ((inoAt ss (entAt ss (k : Int)).target).kind = 0)
/-- is the name nm in folder d by entry k? -/
def inB (ss : List (List Int)) (d : Int) (nm : ByteArray) (k : Nat) : Bool := standB ss k && decide ((entAt ss (k : Int)).parent = d) && decide ((entAt ss (k : Int)).name = nm)
def findO (ss : List (List Int)) (d : Int) (nm : ByteArray) : Option Nat := upto (inB ss d nm) 24
/-- the way from inode n along the names: the inode, and the error -/
def lookG (ss : List (List Int)) : Int → List (List Int) → Int × Int
  | n, [] => (n, 0)
  | n, x :: r => if (inoAt ss n).kind = 2 then (match findO ss n (strOfNums x) with
    | some k => lookG ss (entAt ss (k : Int)).target r
    | none => (0, 4)) else (0, 6)
def lookV (ss : List (List Int)) (s : List Int) : Int × Int := match splitL s with
  | none => (0, 9)
  | some ns => lookG ss 0 ns
theorem lookG_kind {ss : List (List Int)} {n : Int} {x : List Int} {r : List (List Int)} (h : (inoAt ss n).kind ≠ 2) : lookG ss n (x :: r) = (0, 6) := by rw [lookG, if_neg h]
theorem lookG_none {ss : List (List Int)} {n : Int} {x : List Int} {r : List (List Int)} (h : (inoAt ss n).kind = 2) (hf : findO ss n (strOfNums x) = none) : lookG ss n (x :: r) = (0, 4) := by rw [lookG, if_pos h, hf]
theorem lookG_some {ss : List (List Int)} {n : Int} {x : List Int} {r : List (List Int)} {k : Nat} (h : (inoAt ss n).kind = 2) (hf : findO ss n (strOfNums x) = some k) : lookG ss n (x :: r) = lookG ss (entAt ss (k : Int)).target r := by rw [lookG, if_pos h, hf]
theorem ent_fine {ss : List (List Int)} (hs : Secs ss) (k : Int) : 0 ≤ (entAt ss k).parent ∧ (entAt ss k).parent ≤ 255 ∧ 0 ≤ (entAt ss k).target ∧ (entAt ss k).target ≤ 255 := by
  have f0 : 0 ≤ ent0.parent ∧ ent0.parent ≤ 255 ∧ 0 ≤ ent0.target ∧ ent0.target ≤ 255 := by decide
  unfold entAt
  split
  · have hS := secAt_sec hs (17 + k)
    rw [entOfV]
    split
    · have h1 := sec_getD hS 1
      have h2 := sec_getD hS 2
      simp only [entC]
      omega
    · exact f0
  · exact f0
theorem list_four {l : List Int} (h : l.length = 4) : ∃ a b c d, l = [a, b, c, d] := by
  match l, h with
  | [a, b, c, d], _ => exact ⟨a, b, c, d, rfl⟩
theorem fieldI0 (x : Ino) (h : x.b.length = 4) (w : World) : (Instr.field 30 (aggI x) 0).run Tryz.prog w = .ok (.int .i64 x.kind) w := by
  obtain ⟨kd, sz, bl⟩ := x
  obtain ⟨a, b, c, d, rfl⟩ := list_four h
  kernel_rfl
theorem fieldE3 (x : Ent) (w : World) : (Instr.field 34 (aggE x) 3).run Tryz.prog w = .ok (.int .i64 x.target) w := by
  obtain ⟨u, pa, nm, tg⟩ := x
  kernel_rfl
theorem look_none {ss : List (List Int)} {s : List Int} (h : splitL s = none) : lookV ss s = (0, 9) := by rw [lookV, h]
theorem look_some {ss : List (List Int)} {s : List Int} {ns : List (List Int)} (h : splitL s = some ns) : lookV ss s = lookG ss 0 ns := by rw [lookV, h]
theorem optV_none : optV none = .tuple #[.int .i64 0, .bool false] := rfl
theorem optV_some (k : Nat) : optV (some k) = .tuple #[.int .i64 (k : Int), .bool true] := rfl
def lookT (x : Int × Int) : Value := .tuple #[.int .i64 x.1, .int .i64 x.2]
theorem findO_lt {ss : List (List Int)} {d : Int} {nm : ByteArray} {k : Nat} (h : findO ss d nm = some k) : k < 24 := (upto_some h).1
end Go.Proofs.YtofnciffdhjacaaGreatDoor.lk
/- What the code's read, Inode and Entry give. -/
namespace Go.Proofs.YtofnciffdhjacaaGreatDoor.lk
set_option maxRecDepth 100000
open Go.ChangeShapes Go.WideShapes Go.ChangeAt Go.RowKit
open Go.Proofs.YtofnciffdhjacaaGreatDoor.rows
open Go.Proofs.YtofnciffdhjacaaGreatDoor.sec
open Go.Proofs.YtofnciffdhjacaaGreatDoor.dsk (wf64)
open Go.Proofs.YtofnciffdhjacaaGreatDoor.ly
set_option linter.unusedVariables false
set_option linter.unusedSimpArgs false

set_option maxRecDepth 100000 in
set_option maxHeartbeats 1600000 in
theorem sread_any (w : World) (d : Value) (ss : List (List Int)) (i : Int) (h : Dk w d ss) (hi : wf64 i) : Calls Tryz.prog 23 #[d, .int .i64 i] w fun e w' => e = .returned (agg (secAt ss i)) ∧ Below w.heap.size w w' := by
  have HT := Lib.hid fun w' (hb : Below w.heap.size w w') => dread w' d ss i (h.later hb) hi
  have hS := secAt_sec h.secs.1 i
  have A0 := Lib.hid (at_lit w)
  have hb0 := below_alloc (Below.refl w.heap.size w) (.cells #[Value.int IntKind.u8 0, Value.int IntKind.u8 0, Value.int IntKind.u8 0, Value.int IntKind.u8 0, Value.int IntKind.u8 0, Value.int IntKind.u8 0, Value.int IntKind.u8 0, Value.int IntKind.u8 0, Value.int IntKind.u8 0, Value.int IntKind.u8 0, Value.int IntKind.u8 0, Value.int IntKind.u8 0, Value.int IntKind.u8 0, Value.int IntKind.u8 0, Value.int IntKind.u8 0, Value.int IntKind.u8 0, Value.int IntKind.u8 0, Value.int IntKind.u8 0, Value.int IntKind.u8 0, Value.int IntKind.u8 0, Value.int IntKind.u8 0, Value.int IntKind.u8 0, Value.int IntKind.u8 0, Value.int IntKind.u8 0, Value.int IntKind.u8 0, Value.int IntKind.u8 0, Value.int IntKind.u8 0, Value.int IntKind.u8 0, Value.int IntKind.u8 0, Value.int IntKind.u8 0, Value.int IntKind.u8 0, Value.int IntKind.u8 0] 44)
  obtain ⟨W, hW⟩ : ∃ W, w.alloc (.cells #[Value.int IntKind.u8 0, Value.int IntKind.u8 0, Value.int IntKind.u8 0, Value.int IntKind.u8 0, Value.int IntKind.u8 0, Value.int IntKind.u8 0, Value.int IntKind.u8 0, Value.int IntKind.u8 0, Value.int IntKind.u8 0, Value.int IntKind.u8 0, Value.int IntKind.u8 0, Value.int IntKind.u8 0, Value.int IntKind.u8 0, Value.int IntKind.u8 0, Value.int IntKind.u8 0, Value.int IntKind.u8 0, Value.int IntKind.u8 0, Value.int IntKind.u8 0, Value.int IntKind.u8 0, Value.int IntKind.u8 0, Value.int IntKind.u8 0, Value.int IntKind.u8 0, Value.int IntKind.u8 0, Value.int IntKind.u8 0, Value.int IntKind.u8 0, Value.int IntKind.u8 0, Value.int IntKind.u8 0, Value.int IntKind.u8 0, Value.int IntKind.u8 0, Value.int IntKind.u8 0, Value.int IntKind.u8 0, Value.int IntKind.u8 0] 44) = W := ⟨_, rfl⟩
  rw [hW] at hb0 A0
  have HB0 := Lib.hid hb0
  have HS := Lib.hid hS
  generalize (if 0 ≤ i ∧ i < (ss.length : Int) then (0 : Int) else 1) = r at HT
  generalize secAt ss i = s at *
  clear h hS hb0 hi
  go_enter Tryz.func23, Tryz.ntmps23
  go_upto_region 1 with fail
  clear hW
  go_wp2_with (first | (go_at_call 42; refine (HT.out _ HB0.out).mono ?_; rintro e w1 ⟨rfl, hb⟩; have B1 := Lib.hid (below_trans HB0.out hb); have A1 := Lib.hid (A0.out.later hb); clear hb) | (refine store_at rfl (.tmp 5) (.tmp 11) rfl rfl w1.heap.size s zero32 rfl rfl HS.out.1 (by decide) (at_lit w1) ?_; intro w2 hA hB _; have hb := (below_alloc (Below.refl _ w1) _).trans hB; have B2 := Lib.hid (below_trans B1.out hb); have A2 := Lib.hid (A1.out.later hb); have S2 := Lib.hid hA; clear hA hB hb) | (refine load_at rfl (.tmp 5) rfl w1.heap.size rfl s HS.out.1 S2.out ?_) | (refine store_at rfl (.tmp 4) (.tmp 13) rfl rfl w.heap.size s zero32 rfl rfl HS.out.1 (by decide) A2.out ?_; intro w5 hA hB _; have A5 := Lib.hid hA; have B5 := Lib.hid (B2.out.trans hB); clear hA hB))
  exact ret_sec rfl w.heap.size s rfl HS.out.1 A5.out rfl ⟨rfl, B5.out⟩
set_option maxRecDepth 100000 in
set_option maxHeartbeats 1600000 in
theorem cino_any (w : World) (d : Value) (ss : List (List Int)) (i : Int) (h : Dk w d ss) (hi : wf64 i) : Calls Tryz.prog 7 #[d, .int .i64 i] w fun e w' => e = .returned (aggI (inoAt ss i)) ∧ Below w.heap.size w w' := by
  have A0 := Lib.hid (atI_lit w)
  have hb0 := below_alloc (Below.refl w.heap.size w) (.cells #[.int .i64 0, .int .i64 0, .int .i64 0, .int .i64 0, .int .i64 0, .int .i64 0] 30)
  obtain ⟨i1, i2⟩ := rows.wf_i64 hi
  by_cases hin : 0 ≤ i ∧ i < 16
  · have e : inoAt ss i = inoOfV (secAt ss (1 + i)) := by rw [inoAt, if_pos hin]
    rw [e]
    have HT := Lib.hid fun w' (hb : Below w.heap.size w w') => sread_any w' d ss (1 + i) (h.later hb) (WalkArith.wf_i64 (by omega))
    have hS := secAt_sec h.secs.1 (1 + i)
    have HI := Lib.hid fun w => inodeOf_any (secAt ss (1 + i)) hS w
    have H4 := Lib.hid (inoOfV_four hS)
    obtain ⟨j1, j2⟩ := hin
    obtain ⟨W, hW⟩ : ∃ W, w.alloc (.cells #[.int .i64 0, .int .i64 0, .int .i64 0, .int .i64 0, .int .i64 0, .int .i64 0] 30) = W := ⟨_, rfl⟩
    rw [hW] at hb0 A0
    have HB0 := Lib.hid hb0
    generalize inoOfV (secAt ss (1 + i)) = x at *
    generalize inoOfB (secAt ss (1 + i)) = xb at *
    generalize secAt ss (1 + i) = s at *
    clear h hS e hb0
    go_enter Tryz.func7, Tryz.ntmps7
    go_upto_region 1 with fail
    clear hW
    go_wp2_with (first | (go_at_call 23; refine (HT.out _ HB0.out).mono ?_; rintro e w1 ⟨rfl, hb⟩; have B1 := Lib.hid (below_trans HB0.out hb); have A1 := Lib.hid (A0.out.later hb); clear hb) | (go_at_call 22; refine (HI.out _).mono ?_; rintro e w3 ⟨rfl, hb⟩; have B3 := Lib.hid (below_trans B1.out hb); have A3 := Lib.hid (A1.out.later hb); clear hb) | (refine store_ino rfl (.tmp 5) (.tmp 20) rfl rfl w3.heap.size x ino0 rfl rfl H4.out rfl (atI_lit w3) ?_; intro w4 hA hB _; have hb := (below_alloc (Below.refl _ w3) _).trans hB; have B4 := Lib.hid (below_trans B3.out hb); have A4 := Lib.hid (A3.out.later hb); have X4 := Lib.hid hA; clear hA hB hb) | (refine load_ino rfl (.tmp 5) rfl w3.heap.size rfl x H4.out X4.out ?_) | (refine store_ino rfl (.tmp 4) (.tmp 22) rfl rfl w.heap.size x ino0 rfl rfl H4.out rfl A4.out ?_; intro w5 hA hB _; have A5 := Lib.hid hA; have B5 := Lib.hid (B4.out.trans hB); clear hA hB))
    exact ret_ino1 rfl w.heap.size x rfl H4.out A5.out rfl ⟨rfl, B5.out⟩
  · have e : inoAt ss i = ino0 := by rw [inoAt, if_neg hin]
    rw [e]
    clear h e
    obtain ⟨W, hW⟩ : ∃ W, w.alloc (.cells #[.int .i64 0, .int .i64 0, .int .i64 0, .int .i64 0, .int .i64 0, .int .i64 0] 30) = W := ⟨_, rfl⟩
    rw [hW] at hb0 A0
    have HB0 := Lib.hid hb0
    clear hb0
    by_cases hz : i < 0
    · go_enter Tryz.func7, Tryz.ntmps7
      go_upto_region 1 with fail
      clear hW
      go_wp2_with (refine store_ino rfl (.tmp 4) (.tmp 13) rfl rfl w.heap.size ino0 ino0 rfl rfl rfl rfl A0.out ?_; intro w5 hA hB _; have A5 := Lib.hid hA; have B5 := Lib.hid (HB0.out.trans hB); clear hA hB)
      exact ret_ino1 rfl w.heap.size ino0 rfl rfl A5.out rfl ⟨rfl, B5.out⟩
    · have hz2 : 16 ≤ i := by omega
      have hz0 : 0 ≤ i := by omega
      go_enter Tryz.func7, Tryz.ntmps7
      go_upto_region 1 with fail
      clear hW
      go_wp2_with (refine store_ino rfl (.tmp 4) (.tmp 13) rfl rfl w.heap.size ino0 ino0 rfl rfl rfl rfl A0.out ?_; intro w5 hA hB _; have A5 := Lib.hid hA; have B5 := Lib.hid (HB0.out.trans hB); clear hA hB)
      exact ret_ino1 rfl w.heap.size ino0 rfl rfl A5.out rfl ⟨rfl, B5.out⟩
set_option maxRecDepth 100000 in
set_option maxHeartbeats 1600000 in
theorem cent_any (w : World) (d : Value) (ss : List (List Int)) (i : Int) (h : Dk w d ss) (hi : wf64 i) : Calls Tryz.prog 9 #[d, .int .i64 i] w fun e w' => e = .returned (aggE (entAt ss i)) ∧ Below w.heap.size w w' := by
  have A0 := Lib.hid (atE_lit w)
  have hb0 := below_alloc (Below.refl w.heap.size w) (.cells #[.bool false, .int .i64 0, .string { data := #[] }, .int .i64 0] 34)
  obtain ⟨i1, i2⟩ := rows.wf_i64 hi
  by_cases hin : 0 ≤ i ∧ i < 24
  · have e : entAt ss i = entOfV (secAt ss (17 + i)) := by rw [entAt, if_pos hin]
    rw [e]
    have HT := Lib.hid fun w' (hb : Below w.heap.size w w') => sread_any w' d ss (17 + i) (h.later hb) (WalkArith.wf_i64 (by omega))
    have hS := secAt_sec h.secs.1 (17 + i)
    have HI := Lib.hid fun w => entryOf_any (secAt ss (17 + i)) hS w
    have _h4 := True.intro
    obtain ⟨j1, j2⟩ := hin
    obtain ⟨W, hW⟩ : ∃ W, w.alloc (.cells #[.bool false, .int .i64 0, .string { data := #[] }, .int .i64 0] 34) = W := ⟨_, rfl⟩
    rw [hW] at hb0 A0
    have HB0 := Lib.hid hb0
    generalize entOfV (secAt ss (17 + i)) = x at *
    generalize entOfB (secAt ss (17 + i)) = xb at *
    generalize secAt ss (17 + i) = s at *
    clear h hS e hb0
    go_enter Tryz.func9, Tryz.ntmps9
    go_upto_region 1 with fail
    clear hW
    go_wp2_with (first | (go_at_call 23; refine (HT.out _ HB0.out).mono ?_; rintro e w1 ⟨rfl, hb⟩; have B1 := Lib.hid (below_trans HB0.out hb); have A1 := Lib.hid (A0.out.later hb); clear hb) | (go_at_call 26; refine (HI.out _).mono ?_; rintro e w3 ⟨rfl, hb⟩; have B3 := Lib.hid (below_trans B1.out hb); have A3 := Lib.hid (A1.out.later hb); clear hb) | (refine store_ent rfl (.tmp 5) (.tmp 20) rfl rfl w3.heap.size x ent0 rfl rfl (atE_lit w3) ?_; intro w4 hA hB _; have hb := (below_alloc (Below.refl _ w3) _).trans hB; have B4 := Lib.hid (below_trans B3.out hb); have A4 := Lib.hid (A3.out.later hb); have X4 := Lib.hid hA; clear hA hB hb) | (refine load_ent rfl (.tmp 5) rfl w3.heap.size rfl x X4.out ?_) | (refine store_ent rfl (.tmp 4) (.tmp 22) rfl rfl w.heap.size x ent0 rfl rfl A4.out ?_; intro w5 hA hB _; have A5 := Lib.hid hA; have B5 := Lib.hid (B4.out.trans hB); clear hA hB))
    exact ret_ent1 rfl w.heap.size x rfl A5.out rfl ⟨rfl, B5.out⟩
  · have e : entAt ss i = ent0 := by rw [entAt, if_neg hin]
    rw [e]
    clear h e
    obtain ⟨W, hW⟩ : ∃ W, w.alloc (.cells #[.bool false, .int .i64 0, .string { data := #[] }, .int .i64 0] 34) = W := ⟨_, rfl⟩
    rw [hW] at hb0 A0
    have HB0 := Lib.hid hb0
    clear hb0
    by_cases hz : i < 0
    · go_enter Tryz.func9, Tryz.ntmps9
      go_upto_region 1 with fail
      clear hW
      go_wp2_with (refine store_ent rfl (.tmp 4) (.tmp 13) rfl rfl w.heap.size ent0 ent0 rfl rfl A0.out ?_; intro w5 hA hB _; have A5 := Lib.hid hA; have B5 := Lib.hid (HB0.out.trans hB); clear hA hB)
      exact ret_ent1 rfl w.heap.size ent0 rfl A5.out rfl ⟨rfl, B5.out⟩
    · have hz2 : 24 ≤ i := by omega
      have hz0 : 0 ≤ i := by omega
      go_enter Tryz.func9, Tryz.ntmps9
      go_upto_region 1 with fail
      clear hW
      go_wp2_with (refine store_ent rfl (.tmp 4) (.tmp 13) rfl rfl w.heap.size ent0 ent0 rfl rfl A0.out ?_; intro w5 hA hB _; have A5 := Lib.hid hA; have B5 := Lib.hid (HB0.out.trans hB); clear hA hB)
      exact ret_ent1 rfl w.heap.size ent0 rfl A5.out rfl ⟨rfl, B5.out⟩
end Go.Proofs.YtofnciffdhjacaaGreatDoor.lk
/- What the code's image and Mounted give. -/
namespace Go.Proofs.YtofnciffdhjacaaGreatDoor.lk
set_option maxRecDepth 100000
open Go.ChangeShapes Go.WideShapes Go.ChangeAt Go.RowKit
open Go.Proofs.YtofnciffdhjacaaGreatDoor.rows
open Go.Proofs.YtofnciffdhjacaaGreatDoor.sec
open Go.Proofs.YtofnciffdhjacaaGreatDoor.dsk (wf64 build_one rd_laid)
open Go.Proofs.YtofnciffdhjacaaGreatDoor.ly
set_option linter.unusedVariables false
set_option linter.unusedSimpArgs false

theorem take_cells {ss : List (List Int)} {k : Nat} (h : k < ss.length) : cellsOf (ss.take (k + 1)) = cellsOf (ss.take k) ++ u8s (secAt ss (k : Int)) := by
  have e : secAt ss (k : Int) = ss[k] := by
    rw [secAt, if_pos ⟨by omega, by omega⟩]
    simp [List.getD, h]
  rw [e, List.take_succ_eq_append_getElem h, cellsOf_append, cellsOf_one]
set_option maxRecDepth 100000 in
set_option maxHeartbeats 1600000 in
theorem image_any (w : World) (d : Value) (ss : List (List Int)) (h : Dk w d ss) : Calls Tryz.prog 30 #[d] w fun e w' => ∃ p c, e = .returned (.slice p ss.length c) ∧ Rd w' 32 (.slice p ss.length c) ss.length (cellsOf ss) ∧ Below w.heap.size w w' := by
  have HT := Lib.hid fun (k : Nat) (hk : k < 65) w' (hb : Below w.heap.size w w') => dread w' d ss (k : Int) (h.later hb) (wf_byte (by omega))
  have HSC := Lib.hid fun (k : Nat) => secAt_sec h.secs.1 (k : Int)
  have hl := h.secs.2
  obtain ⟨n, hn⟩ : ∃ n, ss.length = n := ⟨_, rfl⟩
  have HN := Lib.hid hn
  rw [hn] at hl HT ⊢
  clear h hn
  go_enter Tryz.func30, Tryz.ntmps30
  go_wp2
  go_loopw [3, 4, 5, 6, 7] (fun lv _ _ _ iv wr => ∃ (k : Nat) (p : Option Addr) (c : Nat), k ≤ n ∧ iv = .int .i64 (k : Int) ∧ lv = .slice p k c ∧ Hid (Own wr w.heap.size 44 32 (.slice p k c) k (cellsOf (ss.take k))) ∧ Hid (Below w.heap.size w wr)) (fun _ _ _ _ iv _ => 65 - (intOf iv).toNat)
  case atStart => exact ⟨0, none, 0, by omega, rfl, rfl, Lib.hid (own_nil _ _ _ _), Lib.hid (Below.refl _ _)⟩
  case round =>
    obtain ⟨k, p, c, hk, rfl, rfl, HO, HB⟩ := hrel
    by_cases h65 : k < 65
    · have h65i : (k : Int) < 65 := by omega
      have HTk := Lib.hid (HT.out k h65 wr HB.out)
      have HS := Lib.hid (HSC.out k)
      by_cases hlt : k < n
      · have HC := Lib.hid (take_cells (ss := ss) (k := k) (by rw [HN.out]; exact hlt))
        rw [if_pos ⟨by omega, by omega⟩] at HTk
        generalize secAt ss (k : Int) = s at *
        go_wp2_with (first | (go_at_call 42; refine HTk.out.mono ?_; rintro e w1 ⟨rfl, hb⟩; have B1 := Lib.hid (below_trans HB.out hb); have O1 := Lib.hid (own_later HO.out hb); clear hb) | (refine store_at rfl (.tmp 5) (.tmp 14) rfl rfl w1.heap.size s zero32 rfl rfl HS.out.1 (by decide) (at_lit w1) ?_; intro w2 hA hB _; have hb := (below_alloc (Below.refl _ w1) _).trans hB; have B2 := Lib.hid (below_trans B1.out hb); have O2 := Lib.hid (own_later O1.out hb); have S2 := Lib.hid hA; clear hA hB hb) | (refine load_at rfl (.tmp 5) rfl w1.heap.size rfl s HS.out.1 S2.out ?_) | (refine build_one elem_secs (by decide) rfl (.tmp 19) rfl (u8s s) rfl (by simp [u8s, HS.out.1]) ?_) | (at_builtin; refine ap_rd elem_secs rfl (.tmp 18) (.tmp 20) rfl w.heap.size _ k _ rfl (O2.out.alloc _) _ 1 (u8s s) rfl (rd_laid _ _ _ _ (by simp [u8s, HS.out.1])) (fun u hu => one_ints .u8 _ u hu) (by omega) (by rw [World.size_alloc]; have := B2.out.size; omega) ?_; intro pa ca wa ho hba; have HOA := Lib.hid ho; have HBA := Lib.hid hba; clear ho hba))
        go_roundw
        case rel => exact ⟨k + 1, pa, ca, by omega, by go_num, rfl, Lib.hid (by rw [HC.out]; exact HOA.out), Lib.hid ((B2.out.alloc B2.out.size _).trans HBA.out)⟩
        case measure => simp [intOf]; omega
      · obtain rfl : k = n := by omega
        rw [if_neg (by omega)] at HTk
        generalize secAt ss (k : Int) = s at *
        go_wp2_with (first | (go_at_call 42; refine HTk.out.mono ?_; rintro e w1 ⟨rfl, hb⟩; have B1 := Lib.hid (below_trans HB.out hb); have O1 := Lib.hid (own_later HO.out hb); clear hb) | (refine store_at rfl (.tmp 5) (.tmp 14) rfl rfl w1.heap.size s zero32 rfl rfl HS.out.1 (by decide) (at_lit w1) ?_; intro w2 hA hB _; have hb := (below_alloc (Below.refl _ w1) _).trans hB; have B2 := Lib.hid (below_trans B1.out hb); have O2 := Lib.hid (own_later O1.out hb); clear hA hB hb))
        go_ret
        have := O2.out.rd
        rw [List.take_of_length_le (by rw [HN.out]; exact Nat.le_refl _)] at this
        exact ⟨p, c, rfl, this, B2.out⟩
    · obtain rfl : k = 65 := by omega
      have HE : Hid (ss.take 65 = ss) := Lib.hid (List.take_of_length_le (by rw [HN.out]; exact hl))
      have hn65 : n = 65 := by omega
      go_wp2_with fail
      go_ret
      have := HO.out.rd
      rw [HE.out] at this
      subst hn65
      exact ⟨p, c, rfl, this, HB.out⟩
theorem mounted_any (w : World) (d : Value) (ss : List (List Int)) (h : Dk w d ss) : Calls Tryz.prog 13 #[d] w fun e w' => e = .returned (.bool (mountsB ss)) ∧ Below w.heap.size w w' := by
  have HI := Lib.hid (image_any w d ss h)
  have HM := Lib.hid fun p c w' (hr : Rd w' 32 (.slice p ss.length c) ss.length (cellsOf ss)) => mounts_any p ss.length c ss w' h.secs.1 hr (by have := h.secs.2; unfold maxLen; omega)
  generalize mountsB ss = mb at *
  generalize ss.length = n at *
  clear h
  go_enter Tryz.func13, Tryz.ntmps13
  go_wp2_with (first | (go_at_call 30; refine HI.out.mono ?_; rintro e w1 ⟨p1, c1, rfl, hr, hb⟩; have R1 := Lib.hid hr; have B1 := Lib.hid hb; clear hr hb) | (go_at_call 29; refine (HM.out _ _ _ R1.out).mono ?_; rintro e w2 ⟨rfl, hb⟩; have B2 := Lib.hid (below_trans B1.out hb); clear hb))
  go_ret
  exact ⟨rfl, B2.out⟩
end Go.Proofs.YtofnciffdhjacaaGreatDoor.lk
