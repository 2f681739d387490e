/- What CrashKeeps wants, part 17. -/
import Derived.Test.YtpnepooobmbfbaaCrashKeepsF
import Derived.Test.YtpnepooobmbfbaaCrashKeepsG
import Derived.Test.YtpnepooobmbfbaaCrashKeepsN
import Derived.Test.YtpnepooobmbfbaaCrashKeepsO
import Derived.Test.YtpnepooobmbfbaaCrashKeepsP
/- What CrashKeeps wants of a disk's log and of the images, in the document's words. -/
namespace Go.Proofs.Ytpnepooobmbfbaa.dsk
set_option maxRecDepth 100000
open Go.ChangeShapes Go.WideShapes Go.ChangeAt Go.RowKit
open Go.Proofs.Ytpnepooobmbfbaa.rows
open Go.Proofs.Ytpnepooobmbfbaa.sec
open Go.Proofs.Ytpnepooobmbfbaa.choMath
set_option linter.unusedVariables false
set_option linter.unusedSimpArgs false

/- needs: cfrom_yes cfrom_no cwrite csync cbarrier clog cread csafeO cwaitingO csafe cwaiting codeAt_kept ca_kept CodeDone grow CA Act0 Act0.c Act0.ok Act0.c_len act_parts Act0.light light_any readR readOf num_any load_mid load_mid_g ld_sec ld_tag ld_wr ld_cell step_build ld_at tag_range neq_yields eqIn_sec guard_sec nth_any count_any same_any callowed cimage img_uni img_secs acts_of_trod evs_of_trod secs_of_trod ints_any fill_list step_build At.range at_lit store_at seen_at lastOfSt_at load_cst store_cst ld_tagC range_left range_mid -/
/-- what a disk's log tells of it -/
structure LogSays (n : Nat) (base : List (List Int)) (st : St) : Prop where
  ends : stAt base st.log st.log.length = (st.safe, st.wait)
  ok : st.log.all (evOk n) = true
  wf : ∀ e ∈ st.log, wf64 e.1 ∧ e.2.1.ok ∧ ∀ t ∈ e.2.2, wf64 t.1 ∧ wf64 t.2
theorem stAt_more (base : List (List Int)) (es : List Ev) (e : Ev) : stAt base (es ++ [e]) (es ++ [e]).length = stStep (stAt base es es.length) e := by
  rw [stAt, stAt, List.take_length, List.take_length, List.foldl_append]
  rfl
theorem LogSays.more {n : Nat} {base : List (List Int)} {st st' : St} (h : LogSays n base st) (e : Ev) (hl : st'.log = st.log ++ [e]) (hs : stStep (st.safe, st.wait) e = (st'.safe, st'.wait)) (ho : evOk n e = true) (hw : wf64 e.1 ∧ e.2.1.ok ∧ ∀ t ∈ e.2.2, wf64 t.1 ∧ wf64 t.2) : LogSays n base st' := by
  refine ⟨?_, ?_, ?_⟩
  · rw [hl, stAt_more, h.ends, hs]
  · rw [hl, List.all_append, h.ok]; simp [ho]
  · rw [hl]
    intro x hx
    rcases List.mem_append.1 hx with hx | hx
    · exact h.wf x hx
    · rw [List.mem_singleton.1 hx]; exact hw
theorem LogSays.start (n : Nat) (base : List (List Int)) : LogSays n base (st0 base) := ⟨rfl, rfl, fun e he => (by cases he)⟩
theorem wfk1 : wf64 1 := by unfold wf64; decide
theorem wfk3 : wf64 3 := by unfold wf64; decide
theorem w0_ok : w0.ok := ⟨sec_zero, wf0, wf0, wf0, wf0⟩
/-- what holds of the disk behind so many acts -/
structure KState (n k : Nat) (base : List (List Int)) (st : St) : Prop where
  r : RState n k st
  l : LogSays n base st
theorem kwrite {n k : Nat} {base : List (List Int)} {st : St} (h : KState n k base st) (hk : k ≤ 900) {W : World} (a : Act0) (hok : a.ok W) (hin : 0 ≤ a.pos ∧ a.pos < (n : Int)) : (writeR st a.pos a.s a.k a.id).1 = 0 ∧ KState n (k + 1) base (writeR st a.pos a.s a.k a.id).2 := by
  obtain ⟨e, hr, _⟩ := rstate_write h.r a hok hin
  refine ⟨by rw [e], hr, ?_⟩
  rw [e]
  have hep : wf64 st.ep := WalkArith.wf_i64 (by have := h.r.good.ep; omega)
  exact h.l.more (1, ⟨a.pos, a.s, a.k, a.id, st.ep⟩, []) rfl (by simp [stStep]) (by rw [evOk1]; exact decide_eq_true hin) ⟨wfk1, ⟨hok.sec, hok.pos, hok.k, hok.id, hep⟩, fun t ht => (by cases ht)⟩
theorem kout {n k : Nat} {base : List (List Int)} {st : St} (h : KState n k base st) {W : World} (a : Act0) (hok : a.ok W) (hin : ¬ (0 ≤ a.pos ∧ a.pos < (n : Int))) : (writeR st a.pos a.s a.k a.id).1 = 1 ∧ KState n (k + 1) base (writeR st a.pos a.s a.k a.id).2 := by
  obtain ⟨e, hr, _⟩ := rstate_out h.r a hok hin
  rw [e]
  exact ⟨rfl, hr, ⟨h.l.ends, h.l.ok, h.l.wf⟩⟩
theorem kwr {n k : Nat} {base : List (List Int)} {st : St} (h : KState n k base st) (hk : k ≤ 900) {W : World} (a : Act0) (hok : a.ok W) : KState n (k + 1) base (writeR st a.pos a.s a.k a.id).2 := by
  by_cases hin : 0 ≤ a.pos ∧ a.pos < (n : Int)
  · exact (kwrite h hk a hok hin).2
  · exact (kout h a hok hin).2
theorem kbar {n k : Nat} {base : List (List Int)} {st : St} (h : KState n k base st) (w : World) : KState n (k + 1) base (barrier st).2 := by
  obtain ⟨hr, _⟩ := rstate_bar h.r w
  refine ⟨hr, ?_⟩
  have e : barrier st = (0, { st with asked := st.asked + 1, ep := st.ep + 1, log := st.log ++ [(3, w0, [])] }) := if_neg (by rw [h.r.asks]; decide)
  rw [e]
  exact h.l.more (3, w0, []) rfl (by simp [stStep]) (evOk3 n w0 []) ⟨wfk3, w0_ok, fun t ht => (by cases ht)⟩
theorem ksync {n k : Nat} {base : List (List Int)} {st : St} (h : KState n k base st) (hk : k ≤ 900) {W : World} (a : Act0) (hok : a.ok W) (hl : a.light) : KState n (k + 1) base (syncR st a.ts).2 := by
  obtain ⟨hr, _, _⟩ := rstate_sync h.r hk a hok hl
  refine ⟨hr, ?_⟩
  have e : syncR st a.ts = (0, { st with safe := (settle st.safe st.wait a.ts).1, wait := (settle st.safe st.wait a.ts).2, asked := st.asked + 1, log := st.log ++ [(2, w0, a.ts)] }) := by rw [syncR, if_neg (by rw [h.r.asks]; decide)]
  rw [e]
  exact h.l.more (2, w0, a.ts) rfl (by simp [stStep]) (evOk2 n w0 a.ts) ⟨wf2, w0_ok, hok.tswf⟩
theorem KState.more {n k : Nat} {base : List (List Int)} {st : St} (h : KState n k base st) : KState n (k + 1) base st := ⟨⟨h.r.good.more, h.r.bad, h.r.len⟩, h.l⟩
/-- the log of a disk, as At wants it -/
theorem KState.log {n k : Nat} {base : List (List Int)} {st : St} (h : KState n k base st) (hk : k ≤ 80) {w : World} {p : Option Addr} {c : Nat} {vs : List Value} (hv : EvsIn (fun _ => True) w (.slice p st.log.length c) st.log st.log.length vs) : CrLog w p st.log.length c st.log vs :=
  ⟨hv, h.l.wf, by have := h.r.good.ln; omega, fun e he => (h.r.good.es e he).2⟩

/-! the images -/
theorem ones_digit (n : Nat) : ∀ i, i < n → (2 ^ n - 1) / 2 ^ i % 2 = 1 := by
  intro i hi
  obtain ⟨m, rfl⟩ : ∃ m, n = i + (m + 1) := ⟨n - i - 1, by omega⟩
  have h1 : 0 < 2 ^ i := Nat.pos_of_ne_zero (by simp)
  have h2 : 0 < 2 ^ m := Nat.pos_of_ne_zero (by simp)
  have e : 2 ^ (i + (m + 1)) - 1 = (2 ^ i - 1) + 2 ^ i * (2 * 2 ^ m - 1) := by
    rw [Nat.pow_add, Nat.pow_succ, Nat.mul_sub, Nat.mul_one, Nat.mul_comm (2 ^ m) 2]
    have h3 : 2 ^ i ≤ 2 ^ i * (2 * 2 ^ m) := Nat.le_mul_of_pos_right _ (by omega)
    omega
  rw [e, Nat.add_mul_div_left _ _ h1, Nat.div_eq_of_lt (by omega), Nat.zero_add]
  omega
def keptAll (n : Nat) : Nat := ofl (pref (fun _ => 1) n)
theorem nth_all (n : Nat) (hn : n ≤ 32) : nth (cnt (n : Int) false - 1) (n : Int) false = keptAll n := by
  have e : cnt (n : Int) false = 2 ^ n := by rw [cnt, if_pos (by omega), Int.toNat_natCast]; rfl
  have h1 : 0 < 2 ^ n := Nat.pos_of_ne_zero (by simp)
  rw [nth, e, if_pos (by omega), Int.toNat_natCast]
  exact congrArg ofl (pref_congr _ _ n fun i hi => ones_digit n i hi)
theorem cnt_some (n : Nat) (t : Bool) (hn : n ≤ 32) : 0 < cnt (n : Int) t ∧ cnt (n : Int) t ≤ 1853020188851841 := by
  rw [cnt, if_pos (by omega), Int.toNat_natCast]
  exact ⟨Nat.pos_of_ne_zero (by cases t <;> simp [base]), pow_le t n hn⟩
theorem kept_lt (n : Nat) : keptAll n < 18446744073709551616 := ofl32 _ (pref_lt _ _ fun _ => by omega) (pref_len _ _)
theorem fate_all {n i : Nat} (hn : n ≤ 32) (hi : i < n) : fate (keptAll n) (i : Int) = 1 := by
  rw [fate, if_pos (by omega), Int.toNat_natCast, keptAll, fd_pref _ _ _ (fun _ => by omega) (by omega), if_pos hi]
  rfl
theorem fate_none (i : Int) : fate 0 i = 0 := by
  unfold fate
  split
  · rw [fd, Nat.zero_div]; rfl
  · rfl
theorem img_none (ws : List Wr) (ss : List (List Int)) : ∀ j, imgUpto 0 ws ss j = ss
  | 0 => rfl
  | j + 1 => by
    rw [imgUpto]
    split
    · rw [imgStep, fate_none, if_neg (by decide), if_neg (by decide), img_none ws ss j]
    · exact img_none ws ss j
theorem img_all_upto (ws : List Wr) (ss : List (List Int)) (hn : ws.length ≤ 32) : ∀ j, j ≤ ws.length → imgUpto (keptAll ws.length) ws ss j = outOf (fun _ => true) (ws.take j) ss
  | 0, _ => rfl
  | j + 1, hj => by
    have hl : j < ws.length := by omega
    rw [imgUpto_snoc _ _ _ _ hl, img_all_upto ws ss hn j (by omega), imgStep, fate_all hn hl, if_pos rfl, List.take_succ_eq_append_getElem hl, outOf, outOf, List.foldl_append]
    simp [outStep]
theorem img_all (ws : List Wr) (ss : List (List Int)) (hn : ws.length ≤ 32) : imgUpto (keptAll ws.length) ws ss ws.length = outOf (fun _ => true) ws ss := by
  rw [img_all_upto ws ss hn _ (Nat.le_refl _), List.take_length]
theorem img_still (c : Nat) (ws : List Wr) (ss : List (List Int)) (i : Nat) (h : ∀ x ∈ ws, x.pos ≠ (i : Int)) (hp : ∀ x ∈ ws, 0 ≤ x.pos) : ∀ j, (imgUpto c ws ss j)[i]? = ss[i]?
  | 0 => rfl
  | j + 1 => by
    have ih := img_still c ws ss i h hp j
    rw [imgUpto]
    split
    · rename_i x hx
      have hm := List.mem_of_getElem? hx
      have h1 := h x hm
      have h2 := hp x hm
      have h3 : x.pos.toNat ≠ i := by omega
      rw [imgStep]
      split
      · rw [List.getElem?_set_ne h3, ih]
      · split
        · rw [List.getElem?_set_ne h3, ih]
        · exact ih
    · exact ih
theorem miss_none {n : Nat} {ws : List Wr} (h : ∀ x ∈ ws, 0 ≤ x.pos ∧ x.pos < (n : Int)) : ws.any (missB n) = false := by
  rw [List.any_eq_false]
  intro x hx
  rw [missB, decide_eq_true (h x hx)]
  decide
theorem ok_is {n c : Nat} {ws : List Wr} (h : ∀ x ∈ ws, 0 ≤ x.pos ∧ x.pos < (n : Int)) : imgOk c ws n = alB c (eps ws) := by
  rw [imgOk, miss_none h]; simp
end Go.Proofs.Ytpnepooobmbfbaa.dsk
/- What holds of the code's disk while CrashKeeps asks it, and what At and Image answer then. -/
namespace Go.Proofs.Ytpnepooobmbfbaa.dsk
set_option maxRecDepth 100000
open Go.ChangeShapes Go.WideShapes Go.ChangeAt Go.RowKit
open Go.Proofs.Ytpnepooobmbfbaa.rows
open Go.Proofs.Ytpnepooobmbfbaa.sec
open Go.Proofs.Ytpnepooobmbfbaa.choMath
set_option linter.unusedVariables false
set_option linter.unusedSimpArgs false

theorem CA.kept {w w' : World} {F : Nat → Prop} {d : Value} {st : St} (h : CA w F d st) (k : Keeps F w w') : CA w' F d st := ca_kept w w' F d st h k
theorem num06 (e : Int) (w : World) : Calls Try.prog 24 #[.int .i64 e] w fun r w' => r = .returned (.int .i64 e) ∧ w = w' := by
  go_enter Try.func24, Try.ntmps24
  go_wp2
  go_ret
  exact ⟨rfl, rfl⟩
/-- what holds at the head of the round over the acts -/
structure KAt (W : World) (n k : Nat) (base : List (List Int)) (ad : Addr) (w : World) (F : Nat → Prop) (st : St) : Prop where
  code : CA w F (.pointer (some ad)) st
  state : KState n k base st
  inF : ∀ b, F b → W.heap.size ≤ b ∧ b < w.heap.size
  below : Below W.heap.size W w
theorem KAt.later {W : World} {n k : Nat} {base : List (List Int)} {ad : Addr} {w w' : World} {F : Nat → Prop} {st : St} (h : KAt W n k base ad w F st) (hb : Below w.heap.size w w') : KAt W n k base ad w' F st :=
  ⟨h.code.kept (Keeps.of_below hb), h.state, fun b hF => by have := h.inF b hF; have := hb.size; omega, below_trans h.below hb⟩
theorem KAt.done {W : World} {n k : Nat} {base : List (List Int)} {ad : Addr} {w w' : World} {F : Nat → Prop} {st st' : St} (h : KAt W n k base ad w F st) (hc : CA w' (grow F w w') (.pointer (some ad)) st') (ht : Touch F w w') (hs : KState n (k + 1) base st') : KAt W n (k + 1) base ad w' (grow F w w') st' := by
  have hz := ht.size
  refine ⟨hc, hs, fun b hF => ?_, h.below.trans (ht.below h.below.size fun i hi => (h.inF i hi).1)⟩
  rcases hF with hF | hF
  · have := h.inF b hF; omega
  · have := h.below.size; omega
theorem KAt.more {W : World} {n k : Nat} {base : List (List Int)} {ad : Addr} {w : World} {F : Nat → Prop} {st : St} (h : KAt W n k base ad w F st) : KAt W n (k + 1) base ad w F st :=
  ⟨h.code, h.state.more, h.inF, h.below⟩
theorem KAt.fine {W : World} {n k : Nat} {base : List (List Int)} {ad : Addr} {w : World} {F : Nat → Prop} {st : St} (h : KAt W n k base ad w F st) (hk : k ≤ 900) : st.fine := h.state.r.good.fine hk
/-- what At answers for the disk's own log -/
theorem cat_own {W : World} {n k : Nat} {base : List (List Int)} {ad : Addr} {w : World} {F : Nat → Prop} {st : St} (h : KAt W n k base ad w F st) (hk : k ≤ 80) (hn : 1 ≤ n ∧ n ≤ 65) {w' : World} (pb : Option Addr) (cb : Nat) (hb : Rd w' 32 (.slice pb n cb) n (cellsOf base)) (hs : Secs base) (hl : base.length = n)
    (p : Option Addr) (c : Nat) (vs : List Value) (hv : EvsIn (fun _ => True) w' (.slice p st.log.length c) st.log st.log.length vs) :
    Calls Try.prog 8 #[.slice pb n cb, .slice p st.log.length c, .int .i64 (st.log.length : Int)] w' (AtU n st.wait.length st.safe st.wait true w') := by
  have hin : AtIn w' pb n cb base p st.log.length c st.log vs (st.log.length : Int) := ⟨hb, hs, hl, by omega, h.state.log hk hv, WalkArith.wf_i64 (by have := h.state.r.good.ln; omega)⟩
  have hok : atOk n st.log.length st.log (st.log.length : Int) = true := by rw [atOk, h.state.l.ok]; simp [hn]
  have hst : atSt n st.log.length base st.log (st.log.length : Int) = (st.safe, st.wait) := by
    rw [atSt, if_pos hok, Int.toNat_natCast, h.state.l.ends]
  refine (cat w' pb n cb base p st.log.length c st.log vs _ hin).mono fun e w2 hd => ?_
  have hu := at_uni hd
  rw [hst, hok] at hu
  rw [show (st.safe, st.wait).1.length = n from h.state.r.len] at hu
  exact hu
theorem nth_is (K : Int) (k : Nat) (n : Int) (t : Bool) (w : World) (hK : K = (k : Int)) (hk : k < 18446744073709551616) :
    Calls Try.prog 31 #[.int .u64 K, .int .i64 n, .bool t] w fun e w' => e = .returned (.int .u64 (nth k n t : Int)) ∧ Below w.heap.size w w' := by subst hK; exact cho.nth_any k n t w hk
/-- what Image answers, in one way -/
def ImgU (N : Nat) (X : List (List Int)) (ok : Bool) (w : World) (e : Ending) (w' : World) : Prop :=
  Below w.heap.size w w' ∧ ∃ p c, e = .returned (.tuple #[.slice p N c, .bool ok]) ∧ Rd w' 32 (.slice p N c) N (cellsOf X)
theorem img_of (c : Nat) (hc : c < 18446744073709551616) (ps : Option Addr) (n cs : Nat) (pw : Option Addr) (m cw : Nat) (ss : List (List Int)) (ws : List Wr) (w : World) (hi : imgIn w ps n cs pw m cw ss ws) (hp : ∀ x ∈ ws, 0 ≤ x.pos ∧ x.pos < (n : Int)) :
    Calls Try.prog 14 #[.agg #[.slice ps n cs, .slice pw m cw], .int .u64 (c : Int)] w (ImgU (if alB c (eps ws) = true then n else 0) (if alB c (eps ws) = true then imgUpto c ws ss ws.length else []) (alB c (eps ws)) w) := by
  refine (cimage c ps n cs pw m cw ss ws w hc hi).mono fun e w' h => ?_
  have hu := img_uni h
  rw [ok_is hp] at hu
  exact hu
theorem act_tag {W w : World} {a : Act0} (h : a.ok W) {b o : Nat} (hr : w.rangeAt b o a.c) : w.rangeAt b (o + 34) [.int .i64 a.k, .int .i64 a.id] := fun j u hj => by
  obtain ⟨_, _, _, c34, c35, _, _⟩ := act_parts h hr
  match j, hj with
  | 0, hj => simp at hj; subst hj; simpa using c34
  | 1, hj => simp at hj; subst hj; simpa using c35
/-- what Read answers for a sector of the disk -/
theorem kread {W : World} {n k : Nat} {base : List (List Int)} {ad : Addr} {w : World} {F : Nat → Prop} {st : St} (h : KAt W n k base ad w F st) (hk : k ≤ 80) (hn : n ≤ 65) {i : Nat} (hi : i < n) {X : List (List Int)} (hX : outOf (fun _ => true) st.wait st.safe = X) :
    Calls Try.prog 33 #[.pointer (some ad), .int .i64 (i : Int)] w fun e w' => e = .returned (.tuple #[agg (X.getD i []), .int .i64 0]) ∧ Below w.heap.size w w' := by
  refine (cread w F _ st (i : Int) h.code (h.fine (by omega)) (WalkArith.wf_i64 (by omega))).mono fun e w' hd => ?_
  have hl := h.state.r.len
  have hp := fun x hx => ((h.fine (by omega)).pos x hx).1
  have hs := seen_at i st.wait st.safe hp (by omega)
  rw [hX] at hs
  have hr : readR st (i : Int) = .tuple #[agg (X.getD i []), .int .i64 0] := by
    unfold readR
    have e2 : X.getD i [] = lastOf (i : Int) (st.safe.getD i []) st.wait := by
      rw [List.getD_eq_getElem?_getD (l := X), hs]
      rfl
    rw [if_pos ⟨by omega, by omega⟩, Int.toNat_natCast, readOf, e2]
  rw [hr] at hd
  exact hd
theorem out_all_secs {st : St} (hf : st.fine) {X : List (List Int)} (hX : outOf (fun _ => true) st.wait st.safe = X) : Secs X ∧ X.length = st.safe.length := by
  subst hX
  exact ⟨seenOf_secs hf, seenOf_len st⟩
/-- have the writes before j met sector i? -/
def meets (ws : List Wr) (i j : Nat) : Bool := (ws.take j).any fun x => x.pos == (i : Int)
theorem meets_snoc (ws : List Wr) (i : Nat) {j : Nat} (h : j < ws.length) : meets ws i (j + 1) = (meets ws i j || ws[j].pos == (i : Int)) := by
  rw [meets, List.take_succ_eq_append_getElem h, List.any_append]
  simp [meets]
theorem meets_no {ws : List Wr} {i : Nat} (h : meets ws i ws.length = false) : ∀ x ∈ ws, x.pos ≠ (i : Int) := by
  rw [meets, List.take_length, List.any_eq_false] at h
  intro x hx e
  exact h x hx (by simpa using e)
theorem img_kept (ps : Option Addr) (n cs : Nat) (pw : Option Addr) (m cw : Nat) (ss : List (List Int)) (ws : List Wr) (w : World) (hi : imgIn w ps n cs pw m cw ss ws) (hp : ∀ x ∈ ws, 0 ≤ x.pos ∧ x.pos < (n : Int)) (hm : ws.length ≤ 32) {X : List (List Int)} (hX : outOf (fun _ => true) ws ss = X) :
    Calls Try.prog 14 #[.agg #[.slice ps n cs, .slice pw m cw], .int .u64 (keptAll ws.length : Int)] w (ImgU n X true w) := by
  have h := img_of (keptAll ws.length) (kept_lt _) ps n cs pw m cw ss ws w hi hp
  have ha : alB (keptAll ws.length) (eps ws) = true := by
    have hk := alB_kept (eps ws) (by simpa [eps] using hm)
    rwa [show (eps ws).length = ws.length by simp [eps]] at hk
  rw [ha, if_pos rfl, if_pos rfl, img_all ws ss hm, hX] at h
  exact h
theorem img_lost (ps : Option Addr) (n cs : Nat) (pw : Option Addr) (m cw : Nat) (ss : List (List Int)) (ws : List Wr) (w : World) (hi : imgIn w ps n cs pw m cw ss ws) (hp : ∀ x ∈ ws, 0 ≤ x.pos ∧ x.pos < (n : Int)) (hm : ws.length ≤ 32) :
    Calls Try.prog 14 #[.agg #[.slice ps n cs, .slice pw m cw], .int .u64 0] w (ImgU n ss true w) := by
  have h := img_of 0 (by decide) ps n cs pw m cw ss ws w hi hp
  rw [alB_zero (eps ws) (by simpa [eps] using hm), if_pos rfl, if_pos rfl, img_none] at h
  exact h
theorem some_facts {c n : Nat} {ss : List (List Int)} {ws : List Wr} (hss : Secs ss) (hws : ∀ x ∈ ws, Sec x.s) (hl : ss.length = n) (hp : ∀ x ∈ ws, 0 ≤ x.pos ∧ x.pos < (n : Int)) (h : alB c (eps ws) = true) :
    (if alB c (eps ws) = true then n else 0) = n ∧ (if alB c (eps ws) = true then imgUpto c ws ss ws.length else []).length = n ∧ Secs (if alB c (eps ws) = true then imgUpto c ws ss ws.length else []) ∧ ∀ i, meets ws i ws.length = false → (if alB c (eps ws) = true then imgUpto c ws ss ws.length else [])[i]? = ss[i]? := by
  rw [if_pos h, if_pos h]
  refine ⟨rfl, by rw [imgUpto_len, hl], imgUpto_secs c ws ss hss hws _ fun k hk _ => ?_, fun i hm => img_still c ws ss i (meets_no hm) (fun x hx => (hp x hx).1) _⟩
  have hq := hp _ (List.getElem_mem hk)
  rw [missB, hl, decide_eq_true hq]
  rfl
end Go.Proofs.Ytpnepooobmbfbaa.dsk
/- CrashKeeps' walk. -/
namespace Go.Proofs.Ytpnepooobmbfbaa.dsk
set_option maxRecDepth 100000
open Go.ChangeShapes Go.WideShapes Go.ChangeAt Go.RowKit
open Go.Proofs.Ytpnepooobmbfbaa.rows
open Go.Proofs.Ytpnepooobmbfbaa.sec
open Go.Proofs.Ytpnepooobmbfbaa.choMath
set_option linter.unusedVariables false
set_option linter.unusedSimpArgs false

set_option maxRecDepth 100000 in
set_option maxHeartbeats 3200000 in
theorem walkK (pb : Option Addr) (n cb : Nat) (base : List (List Int)) (p : Option Addr) (m c : Nat) (l : List Act0) (k : Nat) (hk : k < 18446744073709551616) (W : World)
    (h1 : Rd W 32 (.slice pb n cb) n (cellsOf base)) (hn : n ≤ maxLen) (hsec : Secs base) (h2 : Rd W 38 (.slice p m c) m ((l.map Act0.c).flatten)) (hm : m ≤ maxLen) (hok : ∀ a ∈ l, a.ok W) :
    Calls Try.prog 5 #[.slice pb n cb, .slice p m c, .int .u64 (k : Int)] W fun e w' => e = .returned (.bool true) ∧ Below W.heap.size W w' := by
  have HK := Lib.hid cknows
  have H1 := Lib.hid h1
  have H2 := Lib.hid h2
  have HOK := Lib.hid hok
  have HSC := Lib.hid hsec
  have HLI := Lib.hid (light40_any p m c l W (Below.refl _ _) hok h2 hm)
  have hm1 : (m : Int) ≤ 9223372036854775807 := by unfold maxLen at hm; omega
  have hn9 : (n : Int) ≤ 9223372036854775807 := by unfold maxLen at hn; omega
  have hbl : base.length = n := by
    have h := h1.cells
    rw [cellsOf_len hsec] at h
    omega
  have HBL := Lib.hid hbl
  clear h1 h2 hok hsec hbl
  by_cases h5 : 105 < n
  · have h5i : (105 : Int) < n := by omega
    go_enter Try.func5, Try.ntmps5
    go_wp2_with (go_at_call 7; refine (HK.out _).mono ?_; rintro e w2 ⟨rfl, hb2⟩)
    go_ret
    exact ⟨rfl, hb2⟩
  · have h5i : (n : Int) ≤ 105 := by omega
    go_enter Try.func5, Try.ntmps5
    go_wp2_with fail
    refine HLI.out.mono ?_
    rintro e w1 ⟨b, rfl, rfl, hb⟩
    clear HLI
    cases b with
    | false =>
      clear hb
      go_wp2_with (go_at_call 7; refine (HK.out _).mono ?_; rintro e w2 ⟨rfl, hb2⟩)
      go_ret
      exact ⟨rfl, hb2⟩
    | true =>
      obtain ⟨hm40, hli⟩ := hb rfl
      have HLI := Lib.hid hli
      clear hb hli
      by_cases h65 : 1 ≤ n ∧ n ≤ 65
      · go_upto_region 6 with (first | (go_at_call 7; refine (HK.out _).mono ?_; rintro e w2 ⟨rfl, hb2⟩; have HB2 := Lib.hid hb2; clear hb2) | (go_at_call 23; refine (cfrom_yes _ pb n cb base HSC.out (H1.out.later HB2.out) h65.1 h65.2).mono ?_; rintro e w3 ⟨ad, rfl, hc3, hb3⟩; have HC3 := Lib.hid hc3; have HB3 := Lib.hid hb3; clear hc3 hb3) | (go_at_call 24; refine (num06 _ _).mono ?_; rintro e wz ⟨rfl, rfl⟩))
        have HKA0 : Hid (KAt W n 0 base ad w3 (fun b => w2.heap.size ≤ b ∧ b < w3.heap.size) (st0 base)) := Lib.hid (by
          have s2 := HB2.out.size
          refine ⟨HC3.out, ⟨⟨⟨HSC.out, by show base.length ≤ 65; rw [HBL.out]; omega, fun x hx => (by cases hx), fun x hx => (by cases hx), Nat.le_refl _, Nat.le_refl _, Nat.zero_le _, ⟨Int.le_refl _, Int.le_refl _⟩, ⟨Int.le_refl _, Int.le_refl _⟩⟩, rfl, HBL.out⟩, LogSays.start n base⟩, fun b hb => ⟨by omega, by omega⟩, below_trans HB2.out HB3.out⟩)
        have HLL := Lib.hid (Rd.count Act0.c H2.out (fun x hx => Act0.c_len (HOK.out x hx)) (by decide))
        clear HC3 HB2 HB3
        generalize (fun b => w2.heap.size ≤ b ∧ b < w3.heap.size) = F0 at *
        generalize st0 base = stz at *
        have hm40' : (m : Int) ≤ 40 := by omega
        go_wp2_with fail
        go_loopw [9] (fun iv wr => ∃ (i : Nat) (F : Nat → Prop) (st : St), i ≤ m ∧ iv = .int .i64 (i : Int) ∧ Hid (KAt W n i base ad wr F st)) (fun iv _ => m - (intOf iv).toNat)
        case atStart => exact ⟨0, _, _, by omega, rfl, HKA0⟩
        case round =>
          clear HKA0
          obtain ⟨i, F, st, hi, rfl, HKA⟩ := hrel
          by_cases him : i < m
          · have him1 : (i:Int) < m := by omega
            have hil : i < l.length := by rw [HLL.out]; exact him
            obtain ⟨b2, o2, rfl, hcc2, hcm2, hb2, _, HR2⟩ := Rd.chunk Act0.c H2.out (fun x hx => Act0.c_len (HOK.out x hx)) (by decide) him
            have hmem := List.getElem_mem hil
            have HAO := Lib.hid (HOK.out _ hmem)
            have HAL := Lib.hid (HLI.out _ hmem)
            have HWR := Lib.hid (Rd.rangeLater (HR2 i hil) hb2 HKA.out.below)
            generalize l[i] = a at *
            clear HR2 hmem
            have hw4 := HKA.out.below.size
            have hbw : b2 < wr.heap.size := by omega
            obtain ⟨ck, _, _, _, _, cvt, _⟩ := act_parts HAO.out HWR.out
            rcases (show a.kind = 0 ∨ a.kind = 1 ∨ a.kind = 2 ∨ a.kind = 3 ∨ (a.kind ≠ 0 ∧ a.kind ≠ 1 ∧ a.kind ≠ 2 ∧ a.kind ≠ 3) by omega) with hk0 | hk1 | hk2 | hk3 | ⟨k0, k1, k2, k3⟩
            · rw [hk0] at ck
              clear cvt
              go_wp2_with fail
              have HKD := Lib.hid (HKA.out.later ((Below.refl wr.heap.size wr).drew))
              have hnF : ¬ F b2 := fun hF => by have := (HKA.out.inF _ hF).1; omega
              have hbd : b2 < wr.drew.heap.size := hbw
              have HWD : Hid (wr.drew.rangeAt b2 (o2 + i * 38) a.c) := Lib.hid (Rd.rangeLater HWR.out hbw ((Below.refl wr.heap.size wr).drew))
              refine wp_region_held_drew (S := Touch F wr.drew) (by kernel_rfl) (Touch.refl _ _) (fun hH0 => ?_)
              refine wpAnyH_take (i := 0) (oi := { dst := some 61, op := Op.move (Operand.tmp 7), type := 56, pos := "law.go:87", after := #[], guard := none }) (v := ?_) rfl (by kernel_rfl) (by kernel_rfl) (by kernel_rfl) (fun _ _ _ h => h) (Or.inl ⟨by rfl, ?_⟩) (by assumption) ?_
              rotate_left
              · (intro w' hSw; go_simp; try with_reducible rfl)
              try simp only [Act.put, List.setIfInBounds_toArray, List.set_cons_zero, List.set_cons_succ]
              refine wpAnyH_take (i := 1) (oi := { dst := some 62, op := Op.move (Operand.tmp 1), type := 54, pos := "law.go:87", after := #[], guard := none }) (v := ?_) rfl (by kernel_rfl) (by kernel_rfl) (by kernel_rfl) (fun _ _ _ h => h) (Or.inl ⟨by rfl, ?_⟩) (by assumption) ?_
              rotate_left
              · (intro w' hSw; go_simp; try with_reducible rfl)
              try simp only [Act.put, List.setIfInBounds_toArray, List.set_cons_zero, List.set_cons_succ]
              refine wpAnyH_take (i := 2) (oi := { dst := some 63, op := Op.move (Operand.tmp 9), type := 3, pos := "law.go:87", after := #[], guard := none }) (v := ?_) rfl (by kernel_rfl) (by kernel_rfl) (by kernel_rfl) (fun _ _ _ h => h) (Or.inl ⟨by rfl, ?_⟩) (by assumption) ?_
              rotate_left
              · (intro w' hSw; go_simp; try with_reducible rfl)
              try simp only [Act.put, List.setIfInBounds_toArray, List.set_cons_zero, List.set_cons_succ]
              refine wpAnyH_take (i := 3) (oi := { dst := some 64, op := Op.indexAddr 54 (Operand.tmp 62) (Operand.tmp 63), type := 0, pos := "law.go:87", after := #[{ on := 1, ground := Ground.data }, { on := 2, ground := Ground.data }], guard := none }) (v := ?_) rfl (by kernel_rfl) (by kernel_rfl) (by kernel_rfl) (fun _ _ _ h => h) (Or.inl ⟨by rfl, ?_⟩) (by assumption) ?_
              rotate_left
              · (intro w' hSw; go_simp; try with_reducible rfl)
              try simp only [Act.put, List.setIfInBounds_toArray, List.set_cons_zero, List.set_cons_succ]
              refine wpAnyH_take (i := 4) (oi := { dst := some 65, op := Op.fieldAddr 67 (Operand.tmp 64) 1, type := 0, pos := "law.go:87", after := #[{ on := 3, ground := Ground.data }], guard := none }) (v := ?_) rfl (by kernel_rfl) (by kernel_rfl) (by kernel_rfl) (fun _ _ _ h => h) (Or.inl ⟨by rfl, ?_⟩) (by assumption) ?_
              rotate_left
              · (intro w' hSw; go_simp; try with_reducible rfl)
              try simp only [Act.put, List.setIfInBounds_toArray, List.set_cons_zero, List.set_cons_succ]
              refine' wpAnyH_take (i := 5) (oi := { dst := some 66, op := Op.load 3 (Operand.tmp 65), type := 3, pos := "law.go:87", after := #[{ on := 4, ground := Ground.data }], guard := none }) (v := _) rfl (by kernel_rfl) (by kernel_rfl) (by kernel_rfl) (fun _ _ _ h => h) (ld_cell (by rfl) 3 _ Try.underlying3 rfl _ rfl b2 (o2 + i * 38 + 1) rfl (.int .i64 a.pos) (fun w' hw => (act_parts HAO.out (Touch.range hw hbd hnF HWD.out)).2.1)) (by assumption) ?_
              try simp only [Act.put, List.setIfInBounds_toArray, List.set_cons_zero, List.set_cons_succ]
              refine wpAnyH_take (i := 6) (oi := { dst := some 67, op := Op.move (Operand.tmp 1), type := 54, pos := "law.go:87", after := #[], guard := none }) (v := ?_) rfl (by kernel_rfl) (by kernel_rfl) (by kernel_rfl) (fun _ _ _ h => h) (Or.inl ⟨by rfl, ?_⟩) (by assumption) ?_
              rotate_left
              · (intro w' hSw; go_simp; try with_reducible rfl)
              try simp only [Act.put, List.setIfInBounds_toArray, List.set_cons_zero, List.set_cons_succ]
              refine wpAnyH_take (i := 7) (oi := { dst := some 68, op := Op.move (Operand.tmp 9), type := 3, pos := "law.go:87", after := #[], guard := none }) (v := ?_) rfl (by kernel_rfl) (by kernel_rfl) (by kernel_rfl) (fun _ _ _ h => h) (Or.inl ⟨by rfl, ?_⟩) (by assumption) ?_
              rotate_left
              · (intro w' hSw; go_simp; try with_reducible rfl)
              try simp only [Act.put, List.setIfInBounds_toArray, List.set_cons_zero, List.set_cons_succ]
              refine wpAnyH_take (i := 8) (oi := { dst := some 69, op := Op.indexAddr 54 (Operand.tmp 67) (Operand.tmp 68), type := 0, pos := "law.go:87", after := #[{ on := 6, ground := Ground.data }, { on := 7, ground := Ground.data }], guard := none }) (v := ?_) rfl (by kernel_rfl) (by kernel_rfl) (by kernel_rfl) (fun _ _ _ h => h) (Or.inl ⟨by rfl, ?_⟩) (by assumption) ?_
              rotate_left
              · (intro w' hSw; go_simp; try with_reducible rfl)
              try simp only [Act.put, List.setIfInBounds_toArray, List.set_cons_zero, List.set_cons_succ]
              refine wpAnyH_take (i := 9) (oi := { dst := some 70, op := Op.fieldAddr 67 (Operand.tmp 69) 2, type := 0, pos := "law.go:87", after := #[{ on := 8, ground := Ground.data }], guard := none }) (v := ?_) rfl (by kernel_rfl) (by kernel_rfl) (by kernel_rfl) (fun _ _ _ h => h) (Or.inl ⟨by rfl, ?_⟩) (by assumption) ?_
              rotate_left
              · (intro w' hSw; go_simp; try with_reducible rfl)
              try simp only [Act.put, List.setIfInBounds_toArray, List.set_cons_zero, List.set_cons_succ]
              refine' wpAnyH_take (i := 10) (oi := { dst := some 71, op := Op.load 62 (Operand.tmp 70), type := 62, pos := "law.go:87", after := #[{ on := 9, ground := Ground.data }], guard := none }) (v := _) rfl (by kernel_rfl) (by kernel_rfl) (by kernel_rfl) (fun _ _ _ h => h) (ld_sec (by rfl) _ rfl b2 (o2 + i * 38 + 2) rfl a.s HAO.out.sec.1 (fun w' hw => (act_parts HAO.out (Touch.range hw hbd hnF HWD.out)).2.2.1)) (by assumption) ?_
              try simp only [Act.put, List.setIfInBounds_toArray, List.set_cons_zero, List.set_cons_succ]
              refine wpAnyH_take (i := 11) (oi := { dst := some 72, op := Op.move (Operand.tmp 1), type := 54, pos := "law.go:87", after := #[], guard := none }) (v := ?_) rfl (by kernel_rfl) (by kernel_rfl) (by kernel_rfl) (fun _ _ _ h => h) (Or.inl ⟨by rfl, ?_⟩) (by assumption) ?_
              rotate_left
              · (intro w' hSw; go_simp; try with_reducible rfl)
              try simp only [Act.put, List.setIfInBounds_toArray, List.set_cons_zero, List.set_cons_succ]
              refine wpAnyH_take (i := 12) (oi := { dst := some 73, op := Op.move (Operand.tmp 9), type := 3, pos := "law.go:87", after := #[], guard := none }) (v := ?_) rfl (by kernel_rfl) (by kernel_rfl) (by kernel_rfl) (fun _ _ _ h => h) (Or.inl ⟨by rfl, ?_⟩) (by assumption) ?_
              rotate_left
              · (intro w' hSw; go_simp; try with_reducible rfl)
              try simp only [Act.put, List.setIfInBounds_toArray, List.set_cons_zero, List.set_cons_succ]
              refine wpAnyH_take (i := 13) (oi := { dst := some 74, op := Op.indexAddr 54 (Operand.tmp 72) (Operand.tmp 73), type := 0, pos := "law.go:87", after := #[{ on := 11, ground := Ground.data }, { on := 12, ground := Ground.data }], guard := none }) (v := ?_) rfl (by kernel_rfl) (by kernel_rfl) (by kernel_rfl) (fun _ _ _ h => h) (Or.inl ⟨by rfl, ?_⟩) (by assumption) ?_
              rotate_left
              · (intro w' hSw; go_simp; try with_reducible rfl)
              try simp only [Act.put, List.setIfInBounds_toArray, List.set_cons_zero, List.set_cons_succ]
              refine wpAnyH_take (i := 14) (oi := { dst := some 75, op := Op.fieldAddr 67 (Operand.tmp 74) 3, type := 0, pos := "law.go:87", after := #[{ on := 13, ground := Ground.data }], guard := none }) (v := ?_) rfl (by kernel_rfl) (by kernel_rfl) (by kernel_rfl) (fun _ _ _ h => h) (Or.inl ⟨by rfl, ?_⟩) (by assumption) ?_
              rotate_left
              · (intro w' hSw; go_simp; try with_reducible rfl)
              try simp only [Act.put, List.setIfInBounds_toArray, List.set_cons_zero, List.set_cons_succ]
              refine' wpAnyH_take (i := 15) (oi := { dst := some 76, op := Op.load 64 (Operand.tmp 75), type := 64, pos := "law.go:87", after := #[{ on := 14, ground := Ground.data }], guard := none }) (v := _) rfl (by kernel_rfl) (by kernel_rfl) (by kernel_rfl) (fun _ _ _ h => h) (ld_tag (by rfl) _ rfl b2 (o2 + i * 38 + 34) rfl a.k a.id (fun w' hw => act_tag HAO.out (Touch.range hw hbd hnF HWD.out))) (by assumption) ?_
              try simp only [Act.put, List.setIfInBounds_toArray, List.set_cons_zero, List.set_cons_succ]
              -- 16
              refine wpAnyH_ready (rs := [16]) (by kernel_rfl) (by simp) ?_
              refine AllReadyH.cons (o := { dst := some 77, op := Op.call { callee := Callee.value (Operand.func 25), args := #[Operand.tmp 61, Operand.tmp 66, Operand.tmp 71, Operand.tmp 76], argTypes := #[56, 3, 62, 64] }, type := 57, pos := "law.go:87", after := #[{ on := 0, ground := Ground.data }, { on := 5, ground := Ground.data }, { on := 10, ground := Ground.data }, { on := 15, ground := Ground.data }], guard := none }) rfl (fun K hK => ?_) AllReadyH.nil
              go_simp
              refine (cwrite _ F (.pointer (some ad)) st a.pos a.s a.k a.id HKD.out.code (HKD.out.fine (by omega)) HAO.out.pos HAO.out.sec HAO.out.k HAO.out.id).mono ?_
              rintro e v16 ⟨rfl, hc16, ht16⟩
              have HC16 := Lib.hid hc16
              have HT16 := Lib.hid ht16
              clear hc16 ht16
              dsimp only
              refine hK.out _ _ ?_ (fun hHeld => ?_)
              · exact HT16.out
              clear hK K
              try simp only [Act.put, List.setIfInBounds_toArray, List.set_cons_zero, List.set_cons_succ]
              refine wpAnyH_done (by kernel_rfl) ?_ _
              clear hHeld hH0
              have HKN := Lib.hid (HKD.out.done HC16.out HT16.out (kwr HKA.out.state (by omega) a HAO.out))
              go_wp2_with fail
              exact ⟨⟨i + 1, _, _, by omega, by go_num, HKN⟩, by simp [intOf]; omega⟩
            · rw [hk1] at ck
              clear cvt
              go_wp2_with fail
              have HKD := Lib.hid (HKA.out.later ((Below.refl wr.heap.size wr).drew))
              have hnF : ¬ F b2 := fun hF => by have := (HKA.out.inF _ hF).1; omega
              have hbd : b2 < wr.drew.heap.size := hbw
              have HWD : Hid (wr.drew.rangeAt b2 (o2 + i * 38) a.c) := Lib.hid (Rd.rangeLater HWR.out hbw ((Below.refl wr.heap.size wr).drew))
              refine wp_region_held_drew (S := Touch F wr.drew) (by kernel_rfl) (Touch.refl _ _) (fun hH0 => ?_)
              refine wpAnyH_take (i := 0) (oi := { dst := some 61, op := Op.move (Operand.tmp 7), type := 56, pos := "law.go:87", after := #[], guard := none }) (v := ?_) rfl (by kernel_rfl) (by kernel_rfl) (by kernel_rfl) (fun _ _ _ h => h) (Or.inl ⟨by rfl, ?_⟩) (by assumption) ?_
              rotate_left
              · (intro w' hSw; go_simp; try with_reducible rfl)
              try simp only [Act.put, List.setIfInBounds_toArray, List.set_cons_zero, List.set_cons_succ]
              refine wpAnyH_take (i := 1) (oi := { dst := some 62, op := Op.move (Operand.tmp 1), type := 54, pos := "law.go:87", after := #[], guard := none }) (v := ?_) rfl (by kernel_rfl) (by kernel_rfl) (by kernel_rfl) (fun _ _ _ h => h) (Or.inl ⟨by rfl, ?_⟩) (by assumption) ?_
              rotate_left
              · (intro w' hSw; go_simp; try with_reducible rfl)
              try simp only [Act.put, List.setIfInBounds_toArray, List.set_cons_zero, List.set_cons_succ]
              refine wpAnyH_take (i := 2) (oi := { dst := some 63, op := Op.move (Operand.tmp 9), type := 3, pos := "law.go:87", after := #[], guard := none }) (v := ?_) rfl (by kernel_rfl) (by kernel_rfl) (by kernel_rfl) (fun _ _ _ h => h) (Or.inl ⟨by rfl, ?_⟩) (by assumption) ?_
              rotate_left
              · (intro w' hSw; go_simp; try with_reducible rfl)
              try simp only [Act.put, List.setIfInBounds_toArray, List.set_cons_zero, List.set_cons_succ]
              refine wpAnyH_take (i := 3) (oi := { dst := some 64, op := Op.indexAddr 54 (Operand.tmp 62) (Operand.tmp 63), type := 0, pos := "law.go:87", after := #[{ on := 1, ground := Ground.data }, { on := 2, ground := Ground.data }], guard := none }) (v := ?_) rfl (by kernel_rfl) (by kernel_rfl) (by kernel_rfl) (fun _ _ _ h => h) (Or.inl ⟨by rfl, ?_⟩) (by assumption) ?_
              rotate_left
              · (intro w' hSw; go_simp; try with_reducible rfl)
              try simp only [Act.put, List.setIfInBounds_toArray, List.set_cons_zero, List.set_cons_succ]
              refine wpAnyH_take (i := 4) (oi := { dst := some 65, op := Op.fieldAddr 67 (Operand.tmp 64) 1, type := 0, pos := "law.go:87", after := #[{ on := 3, ground := Ground.data }], guard := none }) (v := ?_) rfl (by kernel_rfl) (by kernel_rfl) (by kernel_rfl) (fun _ _ _ h => h) (Or.inl ⟨by rfl, ?_⟩) (by assumption) ?_
              rotate_left
              · (intro w' hSw; go_simp; try with_reducible rfl)
              try simp only [Act.put, List.setIfInBounds_toArray, List.set_cons_zero, List.set_cons_succ]
              refine' wpAnyH_take (i := 5) (oi := { dst := some 66, op := Op.load 3 (Operand.tmp 65), type := 3, pos := "law.go:87", after := #[{ on := 4, ground := Ground.data }], guard := none }) (v := _) rfl (by kernel_rfl) (by kernel_rfl) (by kernel_rfl) (fun _ _ _ h => h) (ld_cell (by rfl) 3 _ Try.underlying3 rfl _ rfl b2 (o2 + i * 38 + 1) rfl (.int .i64 a.pos) (fun w' hw => (act_parts HAO.out (Touch.range hw hbd hnF HWD.out)).2.1)) (by assumption) ?_
              try simp only [Act.put, List.setIfInBounds_toArray, List.set_cons_zero, List.set_cons_succ]
              refine wpAnyH_take (i := 6) (oi := { dst := some 67, op := Op.move (Operand.tmp 1), type := 54, pos := "law.go:87", after := #[], guard := none }) (v := ?_) rfl (by kernel_rfl) (by kernel_rfl) (by kernel_rfl) (fun _ _ _ h => h) (Or.inl ⟨by rfl, ?_⟩) (by assumption) ?_
              rotate_left
              · (intro w' hSw; go_simp; try with_reducible rfl)
              try simp only [Act.put, List.setIfInBounds_toArray, List.set_cons_zero, List.set_cons_succ]
              refine wpAnyH_take (i := 7) (oi := { dst := some 68, op := Op.move (Operand.tmp 9), type := 3, pos := "law.go:87", after := #[], guard := none }) (v := ?_) rfl (by kernel_rfl) (by kernel_rfl) (by kernel_rfl) (fun _ _ _ h => h) (Or.inl ⟨by rfl, ?_⟩) (by assumption) ?_
              rotate_left
              · (intro w' hSw; go_simp; try with_reducible rfl)
              try simp only [Act.put, List.setIfInBounds_toArray, List.set_cons_zero, List.set_cons_succ]
              refine wpAnyH_take (i := 8) (oi := { dst := some 69, op := Op.indexAddr 54 (Operand.tmp 67) (Operand.tmp 68), type := 0, pos := "law.go:87", after := #[{ on := 6, ground := Ground.data }, { on := 7, ground := Ground.data }], guard := none }) (v := ?_) rfl (by kernel_rfl) (by kernel_rfl) (by kernel_rfl) (fun _ _ _ h => h) (Or.inl ⟨by rfl, ?_⟩) (by assumption) ?_
              rotate_left
              · (intro w' hSw; go_simp; try with_reducible rfl)
              try simp only [Act.put, List.setIfInBounds_toArray, List.set_cons_zero, List.set_cons_succ]
              refine wpAnyH_take (i := 9) (oi := { dst := some 70, op := Op.fieldAddr 67 (Operand.tmp 69) 2, type := 0, pos := "law.go:87", after := #[{ on := 8, ground := Ground.data }], guard := none }) (v := ?_) rfl (by kernel_rfl) (by kernel_rfl) (by kernel_rfl) (fun _ _ _ h => h) (Or.inl ⟨by rfl, ?_⟩) (by assumption) ?_
              rotate_left
              · (intro w' hSw; go_simp; try with_reducible rfl)
              try simp only [Act.put, List.setIfInBounds_toArray, List.set_cons_zero, List.set_cons_succ]
              refine' wpAnyH_take (i := 10) (oi := { dst := some 71, op := Op.load 62 (Operand.tmp 70), type := 62, pos := "law.go:87", after := #[{ on := 9, ground := Ground.data }], guard := none }) (v := _) rfl (by kernel_rfl) (by kernel_rfl) (by kernel_rfl) (fun _ _ _ h => h) (ld_sec (by rfl) _ rfl b2 (o2 + i * 38 + 2) rfl a.s HAO.out.sec.1 (fun w' hw => (act_parts HAO.out (Touch.range hw hbd hnF HWD.out)).2.2.1)) (by assumption) ?_
              try simp only [Act.put, List.setIfInBounds_toArray, List.set_cons_zero, List.set_cons_succ]
              refine wpAnyH_take (i := 11) (oi := { dst := some 72, op := Op.move (Operand.tmp 1), type := 54, pos := "law.go:87", after := #[], guard := none }) (v := ?_) rfl (by kernel_rfl) (by kernel_rfl) (by kernel_rfl) (fun _ _ _ h => h) (Or.inl ⟨by rfl, ?_⟩) (by assumption) ?_
              rotate_left
              · (intro w' hSw; go_simp; try with_reducible rfl)
              try simp only [Act.put, List.setIfInBounds_toArray, List.set_cons_zero, List.set_cons_succ]
              refine wpAnyH_take (i := 12) (oi := { dst := some 73, op := Op.move (Operand.tmp 9), type := 3, pos := "law.go:87", after := #[], guard := none }) (v := ?_) rfl (by kernel_rfl) (by kernel_rfl) (by kernel_rfl) (fun _ _ _ h => h) (Or.inl ⟨by rfl, ?_⟩) (by assumption) ?_
              rotate_left
              · (intro w' hSw; go_simp; try with_reducible rfl)
              try simp only [Act.put, List.setIfInBounds_toArray, List.set_cons_zero, List.set_cons_succ]
              refine wpAnyH_take (i := 13) (oi := { dst := some 74, op := Op.indexAddr 54 (Operand.tmp 72) (Operand.tmp 73), type := 0, pos := "law.go:87", after := #[{ on := 11, ground := Ground.data }, { on := 12, ground := Ground.data }], guard := none }) (v := ?_) rfl (by kernel_rfl) (by kernel_rfl) (by kernel_rfl) (fun _ _ _ h => h) (Or.inl ⟨by rfl, ?_⟩) (by assumption) ?_
              rotate_left
              · (intro w' hSw; go_simp; try with_reducible rfl)
              try simp only [Act.put, List.setIfInBounds_toArray, List.set_cons_zero, List.set_cons_succ]
              refine wpAnyH_take (i := 14) (oi := { dst := some 75, op := Op.fieldAddr 67 (Operand.tmp 74) 3, type := 0, pos := "law.go:87", after := #[{ on := 13, ground := Ground.data }], guard := none }) (v := ?_) rfl (by kernel_rfl) (by kernel_rfl) (by kernel_rfl) (fun _ _ _ h => h) (Or.inl ⟨by rfl, ?_⟩) (by assumption) ?_
              rotate_left
              · (intro w' hSw; go_simp; try with_reducible rfl)
              try simp only [Act.put, List.setIfInBounds_toArray, List.set_cons_zero, List.set_cons_succ]
              refine' wpAnyH_take (i := 15) (oi := { dst := some 76, op := Op.load 64 (Operand.tmp 75), type := 64, pos := "law.go:87", after := #[{ on := 14, ground := Ground.data }], guard := none }) (v := _) rfl (by kernel_rfl) (by kernel_rfl) (by kernel_rfl) (fun _ _ _ h => h) (ld_tag (by rfl) _ rfl b2 (o2 + i * 38 + 34) rfl a.k a.id (fun w' hw => act_tag HAO.out (Touch.range hw hbd hnF HWD.out))) (by assumption) ?_
              try simp only [Act.put, List.setIfInBounds_toArray, List.set_cons_zero, List.set_cons_succ]
              -- 16
              refine wpAnyH_ready (rs := [16]) (by kernel_rfl) (by simp) ?_
              refine AllReadyH.cons (o := { dst := some 77, op := Op.call { callee := Callee.value (Operand.func 25), args := #[Operand.tmp 61, Operand.tmp 66, Operand.tmp 71, Operand.tmp 76], argTypes := #[56, 3, 62, 64] }, type := 57, pos := "law.go:87", after := #[{ on := 0, ground := Ground.data }, { on := 5, ground := Ground.data }, { on := 10, ground := Ground.data }, { on := 15, ground := Ground.data }], guard := none }) rfl (fun K hK => ?_) AllReadyH.nil
              go_simp
              refine (cwrite _ F (.pointer (some ad)) st a.pos a.s a.k a.id HKD.out.code (HKD.out.fine (by omega)) HAO.out.pos HAO.out.sec HAO.out.k HAO.out.id).mono ?_
              rintro e v16 ⟨rfl, hc16, ht16⟩
              have HC16 := Lib.hid hc16
              have HT16 := Lib.hid ht16
              clear hc16 ht16
              dsimp only
              refine hK.out _ _ ?_ (fun hHeld => ?_)
              · exact HT16.out
              clear hK K
              try simp only [Act.put, List.setIfInBounds_toArray, List.set_cons_zero, List.set_cons_succ]
              refine wpAnyH_done (by kernel_rfl) ?_ _
              clear hHeld hH0
              have HKN := Lib.hid (HKD.out.done HC16.out HT16.out (kwr HKA.out.state (by omega) a HAO.out))
              go_wp2_with fail
              exact ⟨⟨i + 1, _, _, by omega, by go_num, HKN⟩, by simp [intOf]; omega⟩
            · rw [hk2] at ck
              obtain ⟨pt, ct, hvt, hrt⟩ := HAO.out.ts
              rw [hvt] at cvt hrt
              have hti : InS (fun b => ¬ F b) (.slice pt a.ts.length ct) := fun x y z e hy hF => by
                have h1 := (HKA.out.inF _ hF).1
                rcases hrt with ⟨p', cap', e1, e2, _⟩ | ⟨b, off, cap', e1, _, _, _, hlt, _⟩
                · rw [e1] at e; cases e; omega
                · rw [e1] at e; cases e; exact absurd hlt (Nat.not_lt.2 h1)
              have HSY := Lib.hid (csync wr F (.pointer (some ad)) st pt a.ts.length ct a.ts HKA.out.code (HKA.out.fine (by omega)) (hrt.later HKA.out.below) hti HAL.out.1 HAO.out.tswf)
              clear hrt hti
              go_wp2_with (go_at_call 26; refine HSY.out.mono ?_; rintro e w5 ⟨rfl, hc5, ht5⟩; have HC5 := Lib.hid hc5; have HT5 := Lib.hid ht5; clear hc5 ht5)
              have HKN := Lib.hid (HKA.out.done HC5.out HT5.out (ksync HKA.out.state (by omega) a HAO.out HAL.out))
              exact ⟨⟨i + 1, _, _, by omega, by go_num, HKN⟩, by simp [intOf]; omega⟩
            · rw [hk3] at ck
              clear cvt
              go_wp2_with (go_at_call 27; refine (cbarrier wr F (.pointer (some ad)) st HKA.out.code (HKA.out.fine (by omega))).mono ?_; rintro e w5 ⟨rfl, hc5, ht5⟩; have HC5 := Lib.hid hc5; have HT5 := Lib.hid ht5; clear hc5 ht5)
              have HKN := Lib.hid (HKA.out.done HC5.out HT5.out (kbar HKA.out.state wr))
              exact ⟨⟨i + 1, _, _, by omega, by go_num, HKN⟩, by simp [intOf]; omega⟩
            · have d0 : (a.kind == 0) = false := beq_eq_false_iff_ne.2 k0
              have d1 : (a.kind == 1) = false := beq_eq_false_iff_ne.2 k1
              have d2 : (a.kind == 2) = false := beq_eq_false_iff_ne.2 k2
              have d3 : (a.kind == 3) = false := beq_eq_false_iff_ne.2 k3
              clear cvt
              go_wp2_with fail
              exact ⟨⟨i + 1, F, st, by omega, by go_num, Lib.hid HKA.out.more⟩, by simp [intOf]; omega⟩
          · obtain rfl : i = m := by omega
            have hns : st.safe.length = n := HKA.out.state.r.len
            have hfi := HKA.out.fine (by omega)
            obtain ⟨SF, hSF⟩ : ∃ SF, st.safe = SF := ⟨_, rfl⟩
            obtain ⟨WT, hWT⟩ : ∃ WT, st.wait = WT := ⟨_, rfl⟩
            obtain ⟨M, hM⟩ : ∃ M, st.wait.length = M := ⟨_, rfl⟩
            obtain ⟨L, hL⟩ : ∃ L, st.log.length = L := ⟨_, rfl⟩
            obtain ⟨X, hX⟩ : ∃ X, outOf (fun _ => true) st.wait st.safe = X := ⟨_, rfl⟩
            have HLG : Hid (∀ W', Below wr.heap.size wr W' → Calls Try.prog 28 #[.pointer (some ad)] W' fun e w' => ∃ p c es, e = .returned (.slice p L c) ∧ EvsIn (fun _ => True) w' (.slice p L c) st.log L es ∧ Below W'.heap.size W' w') := Lib.hid fun W' hb => by
              have h := clog W' F _ st (HKA.out.later hb).code hfi
              rw [hL] at h
              exact h
            have HCT : Hid (∀ W', Below wr.heap.size wr W' → ∀ p c vs, EvsIn (fun _ => True) W' (.slice p L c) st.log L vs → Calls Try.prog 8 #[.slice pb n cb, .slice p L c, .int .i64 (L : Int)] W' (AtU n M SF WT true W')) := Lib.hid fun W' hb p c vs hv => by
              have h := cat_own (HKA.out.later hb) (by omega) h65 pb cb (H1.out.later (HKA.out.later hb).below) HSC.out HBL.out p c vs (by rw [hL]; exact hv)
              rw [hL, hM, hSF, hWT] at h
              exact h
            have HSF : Hid (∀ W', Below wr.heap.size wr W' → Calls Try.prog 29 #[.pointer (some ad)] W' fun e w' => ∃ p c, e = .returned (.slice p n c) ∧ Rd w' 32 (.slice p n c) n (cellsOf SF) ∧ Below W'.heap.size W' w') := Lib.hid fun W' hb => by
              have h := csafe W' F _ st (HKA.out.later hb).code hfi
              rw [hns, hSF] at h
              exact h
            have HWT : Hid (∀ W', Below wr.heap.size wr W' → Calls Try.prog 30 #[.pointer (some ad)] W' fun e w' => ∃ p c, e = .returned (.slice p M c) ∧ Rd w' 36 (.slice p M c) M (wrsC WT) ∧ Below W'.heap.size W' w') := Lib.hid fun W' hb => by
              have h := cwaiting W' F _ st (HKA.out.later hb).code hfi
              rw [hM, hWT] at h
              exact h
            have HRD : Hid (∀ W', Below wr.heap.size wr W' → ∀ j : Nat, j < n → Calls Try.prog 33 #[.pointer (some ad), .int .i64 (j : Int)] W' fun e w' => e = .returned (.tuple #[agg (X.getD j []), .int .i64 0]) ∧ Below W'.heap.size W' w') := Lib.hid fun W' hb j hj => kread (HKA.out.later hb) (by omega) h65.2 hj hX
            obtain ⟨hxs, hxl⟩ := out_all_secs hfi hX
            have HXS := Lib.hid hxs
            have HXL : Hid (X.length = n) := Lib.hid (hxl.trans hns)
            have HFS : Hid (Secs SF) := Lib.hid (hSF ▸ hfi.few.ss)
            have HFL : Hid (SF.length = n) := Lib.hid (hSF ▸ hns)
            have HFW : Hid (∀ x ∈ WT, Sec x.s) := Lib.hid (hWT ▸ hfi.few.ws)
            have HFP : Hid (∀ x ∈ WT, 0 ≤ x.pos ∧ x.pos < (n : Int)) := Lib.hid (by rw [← hWT, ← hns]; exact hfi.pos)
            have HWL : Hid (WT.length = M) := Lib.hid (hWT ▸ hM)
            have HXD : Hid (outOf (fun _ => true) WT SF = X) := Lib.hid (by rw [← hSF, ← hWT]; exact hX)
            have hL80 : L ≤ 80 := by have := HKA.out.state.r.good.ln; omega
            have hM40 : M ≤ 40 := by have := HKA.out.state.r.good.wn; omega
            have HB4 := Lib.hid HKA.out.below
            clear hxs hxl hX hSF hWT hM hL hns hfi HKA
            generalize st.log = lg at *
            go_upto_region 18 with (first | (go_at_call 28; refine (HLG.out _ (Below.refl _ _)).mono ?_; rintro e w5 ⟨p5, c5, v5, rfl, hv5, hb5⟩; have HV5 := Lib.hid hv5; have HB5 := Lib.hid hb5; clear hv5 hb5) | (go_at_call 28; refine (HLG.out _ HB5.out).mono ?_; rintro e w6 ⟨p6, c6, v6, rfl, hv6, hb6⟩; have HV6 := Lib.hid (evs_later HV5.out hb6); have HB6 := Lib.hid (below_trans HB5.out hb6); clear hv6 hb6) | (go_at_call 8; refine (HCT.out _ HB6.out p5 c5 v5 HV6.out).mono ?_; rintro e w7 ⟨hb7, ps, cs, pw, cw, rfl, hs7, hw7⟩; have HB7 := Lib.hid (below_trans HB6.out hb7); have HS7 := Lib.hid hs7; have HW7 := Lib.hid hw7; clear hb7 hs7 hw7))
            obtain ⟨W8, hW8⟩ : ∃ W8, w7.alloc (.cells #[.slice ps n cs, .slice pw M cw] 28) = W8 := ⟨_, rfl⟩
            have HR8 : Hid (W8.heap[w7.heap.size]? = some (.cells #[.slice ps n cs, .slice pw M cw] 28 (0, 0))) := Lib.hid (by rw [← hW8]; exact heap_alloc_new _ _)
            have HB8 : Hid (Below wr.heap.size wr W8) := Lib.hid (by rw [← hW8]; exact below_alloc HB7.out _)
            have HS8 : Hid (Rd W8 32 (.slice ps n cs) n (cellsOf SF)) := Lib.hid (by rw [← hW8]; exact HS7.out.later (below_alloc (Below.refl _ _) _))
            have HW8 : Hid (Rd W8 36 (.slice pw M cw) M (wrsC WT)) := Lib.hid (by rw [← hW8]; exact HW7.out.later (below_alloc (Below.refl _ _) _))
            have hg8 : w7.heap.size < W8.heap.size := (Array.getElem?_eq_some_iff.1 HR8.out).1
            rw [hW8]
            clear hW8 HB5 HB6 HB7 HV5 HV6 HS7 HW7 HLG HCT
            generalize w7.heap.size = g8 at *
            have HD8 : Hid (Below W8.heap.size W8 W8.drew) := Lib.hid ((Below.refl _ _).drew)
            refine wp_region_held_drew (S := ext W8.drew) (by kernel_rfl) (Below.refl _ _) (fun hH0 => ?_)
            refine wpAnyH_take (i := 0) (oi := { dst := some 101, op := Op.move (Operand.tmp 11), type := 4, pos := "law.go:95", after := #[], guard := none }) (v := ?_) rfl (by kernel_rfl) (by kernel_rfl) (by kernel_rfl) (fun _ _ _ h => h) (Or.inl ⟨by rfl, ?_⟩) (by assumption) ?_
            rotate_left
            · (intro w' hSw; go_simp; try with_reducible rfl)
            try simp only [Act.put, List.setIfInBounds_toArray, List.set_cons_zero, List.set_cons_succ]
            refine wpAnyH_take (i := 1) (oi := { dst := some 102, op := Op.unOp UnOp.not 4 (Operand.tmp 101), type := 4, pos := "law.go:95", after := #[{ on := 0, ground := Ground.data }], guard := none }) (v := ?_) rfl (by kernel_rfl) (by kernel_rfl) (by kernel_rfl) (fun _ _ _ h => h) (Or.inl ⟨by rfl, ?_⟩) (by assumption) ?_
            rotate_left
            · (intro w' hSw; go_simp; try with_reducible rfl)
            try simp only [Act.put, List.setIfInBounds_toArray, List.set_cons_zero, List.set_cons_succ]
            refine wpAnyH_take (i := 2) (oi := { dst := some 103, op := Op.move (Operand.tmp 102), type := 4, pos := "law.go:95", after := #[{ on := 1, ground := Ground.data }], guard := none }) (v := ?_) rfl (by kernel_rfl) (by kernel_rfl) (by kernel_rfl) (fun _ _ _ h => h) (Or.inl ⟨by rfl, ?_⟩) (by assumption) ?_
            rotate_left
            · (intro w' hSw; go_simp; try with_reducible rfl)
            try simp only [Act.put, List.setIfInBounds_toArray, List.set_cons_zero, List.set_cons_succ]
            refine' wpAnyH_take (i := 3) (oi := { dst := some 104, op := Op.load 28 (Operand.tmp 10), type := 28, pos := "law.go:95", after := #[{ on := 2, ground := Ground.guard }], guard := some (2, false) }) (v := _) rfl (by kernel_rfl) (by kernel_rfl) (by kernel_rfl) (fun _ _ _ h => h) (ld_cst (by rfl) _ rfl g8 rfl _ _ (fun w' hw => row_later HR8.out (below_trans HD8.out hw) hg8)) (by assumption) ?_
            try simp only [Act.put, List.setIfInBounds_toArray, List.set_cons_zero, List.set_cons_succ]
            refine wpAnyH_take (i := 4) (oi := { dst := some 105, op := Op.move (Operand.tmp 7), type := 56, pos := "law.go:95", after := #[{ on := 2, ground := Ground.guard }], guard := some (2, false) }) (v := ?_) rfl (by kernel_rfl) (by kernel_rfl) (by kernel_rfl) (fun _ _ _ h => h) (Or.inl ⟨by rfl, ?_⟩) (by assumption) ?_
            rotate_left
            · (intro w' hSw; go_simp; try with_reducible rfl)
            try simp only [Act.put, List.setIfInBounds_toArray, List.set_cons_zero, List.set_cons_succ]
            refine wpAnyH_take (i := 6) (oi := { dst := some 107, op := Op.move (Operand.tmp 7), type := 56, pos := "law.go:95", after := #[{ on := 2, ground := Ground.guard }], guard := some (2, false) }) (v := ?_) rfl (by kernel_rfl) (by kernel_rfl) (by kernel_rfl) (fun _ _ _ h => h) (Or.inl ⟨by rfl, ?_⟩) (by assumption) ?_
            rotate_left
            · (intro w' hSw; go_simp; try with_reducible rfl)
            try simp only [Act.put, List.setIfInBounds_toArray, List.set_cons_zero, List.set_cons_succ]
            -- 5
            refine wpAnyH_ready (rs := [5]) (by kernel_rfl) (by simp) ?_
            refine AllReadyH.cons (o := { dst := some 106, op := Op.call { callee := Callee.value (Operand.func 29), args := #[Operand.tmp 105], argTypes := #[56] }, type := 22, pos := "law.go:95", after := #[{ on := 4, ground := Ground.data }, { on := 2, ground := Ground.chain }, { on := 2, ground := Ground.guard }], guard := some (2, false) }) rfl (fun K hK => ?_) AllReadyH.nil
            go_simp
            refine (HSF.out _ (below_trans HB8.out HD8.out)).mono ?_
            rintro e v5 ⟨p5, c5, rfl, hs5, hb5⟩
            have HB5 := Lib.hid (below_trans (Below.refl W8.drew.heap.size W8.drew) hb5)
            have HS5 := Lib.hid hs5
            clear hs5 hb5
            dsimp only
            refine hK.out _ _ ?_ (fun hHeld => ?_)
            · exact HB5.out
            clear hK K
            try simp only [Act.put, List.setIfInBounds_toArray, List.set_cons_zero, List.set_cons_succ]
            -- 7
            refine wpAnyH_ready (rs := [7]) (by kernel_rfl) (by simp) ?_
            refine AllReadyH.cons (o := { dst := some 108, op := Op.call { callee := Callee.value (Operand.func 30), args := #[Operand.tmp 107], argTypes := #[56] }, type := 26, pos := "law.go:95", after := #[{ on := 6, ground := Ground.data }, { on := 5, ground := Ground.chain }, { on := 2, ground := Ground.guard }], guard := some (2, false) }) rfl (fun K hK => ?_) AllReadyH.nil
            go_simp
            refine (HWT.out _ (below_trans (below_trans HB8.out HD8.out) HB5.out)).mono ?_
            rintro e v7 ⟨p7, c7, rfl, hw7, hb7⟩
            have HB7 := Lib.hid (below_trans HB5.out hb7)
            have HW7 := Lib.hid hw7
            have HS57 := Lib.hid (HS5.out.later hb7)
            clear hw7 hb7
            dsimp only
            refine hK.out _ _ ?_ (fun hHeld => ?_)
            · exact HB7.out
            clear hK K
            try simp only [Act.put, List.setIfInBounds_toArray, List.set_cons_zero, List.set_cons_succ]
            refine wpAnyH_take (i := 8) (oi := { dst := some 109, op := Op.build 31 #[(0, Operand.tmp 106), (1, Operand.tmp 108)], type := 31, pos := "law.go:95", after := #[{ on := 5, ground := Ground.data }, { on := 7, ground := Ground.data }, { on := 2, ground := Ground.guard }], guard := some (2, false) }) (v := ?_) rfl (by kernel_rfl) (by kernel_rfl) (by kernel_rfl) (fun _ _ _ h => h) (Or.inl ⟨by rfl, ?_⟩) (by assumption) ?_
            rotate_left
            · (intro w' hSw; go_simp; try with_reducible rfl)
            try simp only [Act.put, List.setIfInBounds_toArray, List.set_cons_zero, List.set_cons_succ]
            -- 9
            refine wpAnyH_ready (rs := [9]) (by kernel_rfl) (by simp) ?_
            refine AllReadyH.cons (o := { dst := some 110, op := Op.call { callee := Callee.value (Operand.func 10), args := #[Operand.tmp 104, Operand.tmp 109], argTypes := #[31, 31] }, type := 4, pos := "law.go:95", after := #[{ on := 3, ground := Ground.data }, { on := 8, ground := Ground.data }, { on := 7, ground := Ground.chain }, { on := 2, ground := Ground.guard }], guard := some (2, false) }) rfl (fun K hK => ?_) AllReadyH.nil
            go_simp
            refine (rsame ps n cs pw M cw p5 c5 p7 c7 SF WT _ HFS.out HFW.out (HS8.out.later (below_trans HD8.out HB7.out)) HS57.out (HW8.out.later (below_trans HD8.out HB7.out)) HW7.out (by omega) (by omega)).mono ?_
            rintro e v9 ⟨rfl, hb9⟩
            have HB9 := Lib.hid (below_trans HB7.out hb9)
            clear hb9
            dsimp only
            refine hK.out _ _ ?_ (fun hHeld => ?_)
            · exact HB9.out
            clear hK K
            try simp only [Act.put, List.setIfInBounds_toArray, List.set_cons_zero, List.set_cons_succ]
            refine wpAnyH_take (i := 10) (oi := { dst := some 111, op := Op.unOp UnOp.not 4 (Operand.tmp 110), type := 4, pos := "law.go:95", after := #[{ on := 9, ground := Ground.data }, { on := 2, ground := Ground.guard }], guard := some (2, false) }) (v := ?_) rfl (by kernel_rfl) (by kernel_rfl) (by kernel_rfl) (fun _ _ _ h => h) (Or.inl ⟨by rfl, ?_⟩) (by assumption) ?_
            rotate_left
            · (intro w' hSw; go_simp; try with_reducible rfl)
            try simp only [Act.put, List.setIfInBounds_toArray, List.set_cons_zero, List.set_cons_succ]
            refine wpAnyH_take (i := 11) (oi := { dst := some 112, op := Op.pick (Operand.tmp 103) (Operand.const (Value.bool true)) (Operand.tmp 111), type := 4, pos := "law.go:95", after := #[{ on := 2, ground := Ground.data }, { on := 10, ground := Ground.data }], guard := none }) (v := ?_) rfl (by kernel_rfl) (by kernel_rfl) (by kernel_rfl) (fun _ _ _ h => h) (Or.inl ⟨by rfl, ?_⟩) (by assumption) ?_
            rotate_left
            · (intro w' hSw; go_simp; try with_reducible rfl)
            try simp only [Act.put, List.setIfInBounds_toArray, List.set_cons_zero, List.set_cons_succ]
            refine wpAnyH_done (by kernel_rfl) ?_ _
            have HC9 := Lib.hid (below_trans HD8.out HB9.out)
            clear hHeld hH0 HB5 HB7 HB9 HS5 HS57 HW7 HD8
            have hg9 : g8 < v9.heap.size := Nat.lt_of_lt_of_le hg8 HC9.out.size
            have HR9 := Lib.hid (row_later HR8.out HC9.out hg8)
            have HB9 : Hid (Below wr.heap.size wr v9) := Lib.hid (below_trans HB8.out HC9.out)
            have HS9 := Lib.hid (HS8.out.later HC9.out)
            have HW9 := Lib.hid (HW8.out.later HC9.out)
            have d0 := cell_row HR9.out 0 _ rfl
            have d1 := cell_row HR9.out 1 _ rfl
            clear HR8 HB8 HS8 HW8 HC9 hg8
            by_cases h32 : 32 < M
            · have h32i : (32 : Int) < M := by omega
              go_wp2_with fail
              go_ret
              exact ⟨rfl, below_trans HB4.out HB9.out⟩
            · have h32i : (M : Int) ≤ 32 := by omega
              obtain ⟨hA0, hA1⟩ := cnt_some M false (by omega)
              obtain ⟨hB0, hB1⟩ := cnt_some M true (by omega)
              have hNA := nth_all M (by omega)
              have hCA := fun w => cho.count_any (M : Int) false w
              have hCB := fun w => cho.count_any (M : Int) true w
              generalize cnt (M : Int) false = A at *
              generalize cnt (M : Int) true = B at *
              have HCA := Lib.hid hCA
              have HCB := Lib.hid hCB
              have HNA : Hid (∀ w, Calls Try.prog 31 #[.int .u64 ((A : Int) - 1), .int .i64 (M : Int), .bool false] w fun e w' => e = .returned (.int .u64 (keptAll M : Int)) ∧ Below w.heap.size w w') := Lib.hid fun w => by
                have h := nth_is ((A : Int) - 1) (A - 1) (M : Int) false w (by omega) (by omega)
                rw [hNA] at h
                exact h
              obtain ⟨c3, hc3⟩ : ∃ c3, nth (k % B) (M : Int) true = c3 := ⟨_, rfl⟩
              have hc3l : c3 < 18446744073709551616 := by rw [← hc3]; exact nth_lt _ _ _
              have HNB : Hid (∀ w, Calls Try.prog 31 #[.int .u64 ((k : Int) % (B : Int)), .int .i64 (M : Int), .bool true] w fun e w' => e = .returned (.int .u64 (c3 : Int)) ∧ Below w.heap.size w w') := Lib.hid fun w => by
                have h := nth_is ((k : Int) % (B : Int)) (k % B) (M : Int) true w (by simp) (by have := Nat.mod_le k B; omega)
                rw [hc3] at h
                exact h
              have HIN : Hid (∀ W', Below v9.heap.size v9 W' → imgIn W' ps n cs pw M cw SF WT) := Lib.hid fun W' hb => ⟨HS9.out.later hb, HFS.out, HFL.out, by omega, HW9.out.later hb, HFW.out, by omega⟩
              have hml : WT.length ≤ 32 := by rw [HWL.out]; omega
              have HI1 : Hid (∀ W', Below v9.heap.size v9 W' → Calls Try.prog 14 #[.agg #[.slice ps n cs, .slice pw M cw], .int .u64 (keptAll M : Int)] W' (ImgU n X true W')) := Lib.hid fun W' hb => by
                have h := img_kept ps n cs pw M cw SF WT W' (HIN.out W' hb) HFP.out hml HXD.out
                rw [HWL.out] at h
                exact h
              have HI2 : Hid (∀ W', Below v9.heap.size v9 W' → Calls Try.prog 14 #[.agg #[.slice ps n cs, .slice pw M cw], .int .u64 0] W' (ImgU n SF true W')) := Lib.hid fun W' hb => img_lost ps n cs pw M cw SF WT W' (HIN.out W' hb) HFP.out hml
              have hf3 := some_facts (c := c3) HFS.out HFW.out HFL.out HFP.out
              have hi3 := fun W' (hb : Below v9.heap.size v9 W') => img_of c3 hc3l ps n cs pw M cw SF WT W' (HIN.out W' hb) HFP.out
              have hal := fun W' (hb : Below v9.heap.size v9 W') => callowed c3 ps n cs pw M cw WT W' hc3l HFW.out (HW9.out.later hb) (by omega)
              unfold stV at hal
              rw [HWL.out] at hf3 hi3
              obtain ⟨N3, hN3⟩ : ∃ N3, (if alB c3 (eps WT) = true then n else 0) = N3 := ⟨_, rfl⟩
              obtain ⟨X3, hX3⟩ : ∃ X3, (if alB c3 (eps WT) = true then imgUpto c3 WT SF M else []) = X3 := ⟨_, rfl⟩
              rw [hN3, hX3] at hf3 hi3
              obtain ⟨ok3, ho3⟩ : ∃ ok3, alB c3 (eps WT) = ok3 := ⟨_, rfl⟩
              rw [ho3] at hf3 hi3 hal
              have HI3 := Lib.hid hi3
              have HF3 := Lib.hid hf3
              have HAL := Lib.hid hal
              unfold ImgU at HI1 HI2 HI3
              have hk9 : (k : Int) ≤ 18446744073709551615 := by omega
              have hA0i : (1 : Int) ≤ A := by omega
              have hA1i : (A : Int) ≤ 1853020188851841 := by omega
              have hB0i : (0 : Int) < B := by omega
              have hB1i : (B : Int) ≤ 1853020188851841 := by omega
              clear hf3 hi3 hal hN3 hX3 ho3 hNA hCA hCB hc3 HIN
              generalize keptAll M = ca at *
              go_upto_region 25 with (first | (go_at_call 32; with_reducible refine (HCA.out _).mono ?_; rintro e wq ⟨rfl, rfl⟩) | (go_at_call 32; with_reducible refine (HCB.out _).mono ?_; rintro e wq ⟨rfl, rfl⟩) | (go_at_call 31; with_reducible refine (HNA.out _).mono ?_; rintro e w10 ⟨rfl, hb10⟩; have HB10 := Lib.hid hb10; clear hb10) | (go_at_call 31; with_reducible refine (HNB.out _).mono ?_; rintro e w11 ⟨rfl, hb11⟩; have HB11 := Lib.hid (below_trans HB10.out hb11); clear hb11))
              have e0 := cell_row (row_later HR9.out HB11.out hg9) 0 _ rfl
              have e1 := cell_row (row_later HR9.out HB11.out hg9) 1 _ rfl
              clear d0 d1 HB10 HCA HCB HNA HNB
              go_upto_region 28 with (first | (go_at_call 14; with_reducible refine (HI1.out _ HB11.out).mono ?_; rintro e w12 ⟨hb12, p1, c1, rfl, hr12⟩; have HB12 := Lib.hid (below_trans HB11.out hb12); have HR12 := Lib.hid hr12; have f0 := cell_row (row_later HR9.out HB12.out hg9) 0 _ rfl; have f1 := cell_row (row_later HR9.out HB12.out hg9) 1 _ rfl; clear hb12 hr12) | (go_at_call 14; with_reducible refine (HI2.out _ HB12.out).mono ?_; rintro e w13 ⟨hb13, p2, c2, rfl, hr13⟩; have HB13 := Lib.hid (below_trans HB12.out hb13); have HR13 := Lib.hid hr13; have HR12b := Lib.hid (HR12.out.later hb13); have g0 := cell_row (row_later HR9.out HB13.out hg9) 0 _ rfl; have g1 := cell_row (row_later HR9.out HB13.out hg9) 1 _ rfl; clear hb13 hr13) | (go_at_call 14; with_reducible refine (HI3.out _ HB13.out).mono ?_; rintro e w14 ⟨hb14, p3, c3', rfl, hr14⟩; have HB14 := Lib.hid (below_trans HB13.out hb14); have HR14 := Lib.hid hr14; have HR13b := Lib.hid (HR13.out.later hb14); have HR12c := Lib.hid (HR12b.out.later hb14); have k0 := cell_row (row_later HR9.out HB14.out hg9) 0 _ rfl; have k1 := cell_row (row_later HR9.out HB14.out hg9) 1 _ rfl; clear hb14 hr14))
              clear e0 e1 f0 f1 g0 g1 HB11 HB12 HB13 HR12 HR12b HR13 HI1 HI2 HI3
              go_wp2_with (first | (go_at_call 17; with_reducible refine (HAL.out _ HB14.out).mono ?_; rintro e w15 ⟨rfl, hb15⟩; have HB15 := Lib.hid (below_trans HB14.out hb15); have HL15 := Lib.hid hb15; clear hb15) | (go_at_call 29; with_reducible refine (HSF.out _ (below_trans HB9.out HB15.out)).mono ?_; rintro e w16 ⟨p6, c6, rfl, hs16, hb16⟩; have HB16 := Lib.hid (below_trans HB15.out hb16); have HL16 := Lib.hid (below_trans HL15.out hb16); have HS16 := Lib.hid hs16; clear hb16 hs16) | (go_at_call 16; refine (same_any p2 p6 n c2 c6 SF _ HFS.out (HR13b.out.later HL16.out) HS16.out (by omega)).mono ?_; rintro e w17 ⟨rfl, hb17⟩; have HB17 := Lib.hid (below_trans HB16.out hb17); have HL17 := Lib.hid (below_trans HL16.out hb17); clear hb17))
              have HX17 : Hid (Rd w17 32 (.slice p1 n c1) n (cellsOf X)) := Lib.hid (HR12c.out.later HL17.out)
              have HY17 : Hid (Rd w17 32 (.slice p2 n c2) n (cellsOf SF)) := Lib.hid (HR13b.out.later HL17.out)
              have HZ17 : Hid (Rd w17 32 (.slice p3 N3 c3') N3 (cellsOf X3)) := Lib.hid (HR14.out.later HL17.out)
              have HW17 : Hid (Rd w17 36 (.slice pw M cw) M (wrsC WT)) := Lib.hid (HW9.out.later HB17.out)
              have HR17 := Lib.hid (row_later HR9.out HB17.out hg9)
              have HV17 : Hid (Below wr.heap.size wr w17) := Lib.hid (below_trans HB9.out HB17.out)
              have hg17 : g8 < w17.heap.size := Nat.lt_of_lt_of_le hg9 HB17.out.size
              clear k0 k1 HB14 HB15 HB16 HB17 HL15 HL16 HL17 HS16 HR12c HR13b HR14 HS9 HW9 HR9 HB9 hg9 HAL HSF HWT HXD
              go_loopw [21] (fun iv wq => ∃ (j : Nat), j ≤ n ∧ iv = .int .i64 (j : Int) ∧ Hid (Below w17.heap.size w17 wq)) (fun iv _ => n - (intOf iv).toNat)
              case atStart => exact ⟨0, by omega, rfl, Lib.hid (Below.refl _ _)⟩
              case round =>
                rename World => wq
                obtain ⟨j, hj, rfl, HBJ⟩ := hrel
                by_cases hjn : j < n
                · have hjn1 : (j:Int) < n := by omega
                  have hjx : j < X.length := by rw [HXL.out]; exact hjn
                  obtain ⟨b1, o1, hp1, q11, q12, hb1, _, r1⟩ := row_at HX17.out HXS.out hjn
                  subst hp1
                  have HRX := Lib.hid (Rd.rangeLater (r1 j hjx) hb1 HBJ.out)
                  have hgd : X.getD j [] = X[j] := by simp [List.getD, hjx]
                  have hcr := HRD.out _ (below_trans HV17.out HBJ.out) j hjn
                  rw [hgd] at hcr
                  have HCR := Lib.hid hcr
                  have HRS := Lib.hid (HXS.out _ (List.getElem_mem hjx))
                  clear r1 hgd hcr
                  generalize X[j] = sx at *
                  have HSG := guard_sec
                  have HEQ : Hid (∀ w, (Op.equalIn 10000 62 (.agg (u8s sx).toArray) (.agg (u8s sx).toArray)).run Try.prog w = .ok true w) := Lib.hid fun w => by rw [eqIn_sec w HRS.out HRS.out, decide_eq_true rfl]
                  go_wp2_with (first | (go_at_call 33; refine HCR.out.mono ?_; rintro e w21 ⟨rfl, hb21⟩; have HB21 := Lib.hid hb21; clear hb21) | (refine store_at rfl (.tmp 22) (.tmp 176) rfl rfl w21.heap.size sx zero32 rfl rfl HRS.out.1 (by decide) (at_lit w21) ?_; intro w22 hA22 hB22 hK22; have A22 := Lib.hid hA22; have HB22 := Lib.hid ((below_alloc (Below.refl _ w21) _).trans hB22); clear hA22 hB22 hK22))
                  have s21 := HB21.out.size
                  have hl22 : w21.heap.size < w22.heap.size := (Array.getElem?_eq_some_iff.1 A22.out).1
                  have HBQ : Hid (Below w17.heap.size w17 w22) := Lib.hid (below_trans HBJ.out (below_trans HB21.out HB22.out))
                  have HRX2 := Lib.hid (Rd.rangeLater HRX.out (Nat.lt_of_lt_of_le hb1 HBJ.out.size) (below_trans HB21.out HB22.out))
                  have hb12 : b1 < w22.heap.size := Nat.lt_of_lt_of_le hb1 HBQ.out.size
                  have k1 := cell_row (row_later HR17.out HBQ.out hg17) 1 _ rfl
                  clear HB21 HB22 HBJ HRX
                  go_loopw [24, 25] (fun bv jv wz => ∃ (q : Nat), q ≤ M ∧ jv = .int .i64 (q : Int) ∧ bv = .bool (meets WT j q) ∧ wz = w22) (fun _ jv _ => M - (intOf jv).toNat)
                  case atStart => exact ⟨0, by omega, rfl, rfl, rfl⟩
                  case round =>
                    obtain ⟨q, hq, rfl, rfl, rfl⟩ := hrel
                    by_cases hqm : q < M
                    · have hqm1 : (q:Int) < M := by omega
                      have hql : q < WT.length := by rw [HWL.out]; exact hqm
                      have HMS := Lib.hid (meets_snoc WT j hql)
                      obtain ⟨bw, ow, hpw, a1, a2, hbw', _, rw1⟩ := Rd.chunk Wr.c HW17.out (fun x hx => Wr.c_len (HFW.out x hx)) (by decide) hqm
                      subst hpw
                      have hrw := Rd.rangeLater (rw1 q hql) hbw' HBQ.out
                      have cpos := hrw 0 _ rfl
                      rw [Nat.add_zero] at cpos
                      clear rw1 hrw
                      generalize WT[q].pos = xp at *
                      cases hmt : meets WT j q with
                      | true =>
                        go_wp2_with fail
                        exact ⟨⟨q + 1, by omega, by go_num, by rw [HMS.out, hmt]; rfl, trivial⟩, by simp [intOf]; omega⟩
                      | false =>
                        go_wp2_with fail
                        exact ⟨⟨q + 1, by omega, by go_num, by rw [HMS.out, hmt]; rfl, trivial⟩, by simp [intOf]; omega⟩
                    · obtain rfl : M = q := by omega
                      clear k1
                      go_upto_region 39 with fail
                      cases ok3 with
                      | false =>
                        refine wp_region_held_drew (S := ext wr.drew) (by kernel_rfl) (Below.refl _ _) (fun hH0 => ?_)
                        refine wpAnyH_take (i := 0) (oi := { dst := some 194, op := Op.move (Operand.tmp 15), type := 22, pos := "law.go:116", after := #[], guard := none }) (v := ?_) rfl (by kernel_rfl) (by kernel_rfl) (by kernel_rfl) (fun _ _ _ h => h) (Or.inl ⟨by rfl, ?_⟩) (by assumption) ?_
                        rotate_left
                        · (intro w' hSw; go_simp; try with_reducible rfl)
                        try simp only [Act.put, List.setIfInBounds_toArray, List.set_cons_zero, List.set_cons_succ]
                        refine wpAnyH_take (i := 1) (oi := { dst := some 195, op := Op.move (Operand.tmp 21), type := 3, pos := "law.go:116", after := #[], guard := none }) (v := ?_) rfl (by kernel_rfl) (by kernel_rfl) (by kernel_rfl) (fun _ _ _ h => h) (Or.inl ⟨by rfl, ?_⟩) (by assumption) ?_
                        rotate_left
                        · (intro w' hSw; go_simp; try with_reducible rfl)
                        try simp only [Act.put, List.setIfInBounds_toArray, List.set_cons_zero, List.set_cons_succ]
                        refine wpAnyH_take (i := 2) (oi := { dst := some 196, op := Op.indexAddr 22 (Operand.tmp 194) (Operand.tmp 195), type := 0, pos := "law.go:116", after := #[{ on := 0, ground := Ground.data }, { on := 1, ground := Ground.data }], guard := none }) (v := ?_) rfl (by kernel_rfl) (by kernel_rfl) (by kernel_rfl) (fun _ _ _ h => h) (Or.inl ⟨by rfl, ?_⟩) (by assumption) ?_
                        rotate_left
                        · (intro w' hSw; go_simp; try with_reducible rfl)
                        try simp only [Act.put, List.setIfInBounds_toArray, List.set_cons_zero, List.set_cons_succ]
                        refine' wpAnyH_take (i := 3) (oi := { dst := some 197, op := Op.load 62 (Operand.tmp 196), type := 62, pos := "law.go:116", after := #[{ on := 2, ground := Ground.data }], guard := none }) (v := _) rfl (by kernel_rfl) (by kernel_rfl) (by kernel_rfl) (fun _ _ _ h => h) (ld_sec (by rfl) _ rfl b1 (o1 + j * 32) rfl sx HRS.out.1 (fun w' hw => Rd.rangeLater HRX2.out hb12 (below_drew hw))) (by assumption) ?_
                        try simp only [Act.put, List.setIfInBounds_toArray, List.set_cons_zero, List.set_cons_succ]
                        refine' wpAnyH_take (i := 4) (oi := { dst := some 198, op := Op.load 62 (Operand.tmp 22), type := 62, pos := "law.go:116", after := #[], guard := none }) (v := _) rfl (by kernel_rfl) (by kernel_rfl) (by kernel_rfl) (fun _ _ _ h => h) (ld_sec (by rfl) _ rfl w21.heap.size 0 rfl sx HRS.out.1 (fun w' hw => At.range (row_later A22.out (below_drew hw) hl22))) (by assumption) ?_
                        try simp only [Act.put, List.setIfInBounds_toArray, List.set_cons_zero, List.set_cons_succ]
                        refine' wpAnyH_take (i := 5) (oi := { dst := some 199, op := Op.binOp BinOp.neq 62 (Operand.tmp 197) (Operand.tmp 198) 62, type := 4, pos := "law.go:116", after := #[{ on := 3, ground := Ground.data }, { on := 4, ground := Ground.data }], guard := none }) (v := _) rfl (by kernel_rfl) (by kernel_rfl) (by kernel_rfl) (fun _ _ _ h => h) (neq_yields (by rfl) 62 _ _ _ rfl (u8s sx).toArray (u8s sx).toArray (by rfl) (by rfl) HSG true HEQ.out) (by assumption) ?_
                        try simp only [Act.put, List.setIfInBounds_toArray, List.set_cons_zero, List.set_cons_succ]
                        refine wpAnyH_take (i := 6) (oi := { dst := some 200, op := Op.move (Operand.tmp 199), type := 4, pos := "law.go:116", after := #[{ on := 5, ground := Ground.data }], guard := none }) (v := ?_) rfl (by kernel_rfl) (by kernel_rfl) (by kernel_rfl) (fun _ _ _ h => h) (Or.inl ⟨by rfl, ?_⟩) (by assumption) ?_
                        rotate_left
                        · (intro w' hSw; go_simp; try with_reducible rfl)
                        try simp only [Act.put, List.setIfInBounds_toArray, List.set_cons_zero, List.set_cons_succ]
                        refine wpAnyH_take (i := 7) (oi := { dst := some 201, op := Op.move (Operand.tmp 20), type := 4, pos := "law.go:116", after := #[{ on := 6, ground := Ground.guard }], guard := some (6, false) }) (v := ?_) rfl (by kernel_rfl) (by kernel_rfl) (by kernel_rfl) (fun _ _ _ h => h) (Or.inl ⟨by rfl, ?_⟩) (by assumption) ?_
                        rotate_left
                        · (intro w' hSw; go_simp; try with_reducible rfl)
                        try simp only [Act.put, List.setIfInBounds_toArray, List.set_cons_zero, List.set_cons_succ]
                        refine wpAnyH_take (i := 8) (oi := { dst := some 202, op := Op.move (Operand.tmp 201), type := 4, pos := "law.go:116", after := #[{ on := 7, ground := Ground.data }, { on := 6, ground := Ground.chain }, { on := 6, ground := Ground.guard }], guard := some (6, false) }) (v := ?_) rfl (by kernel_rfl) (by kernel_rfl) (by kernel_rfl) (fun _ _ _ h => h) (Or.inl ⟨by rfl, ?_⟩) (by assumption) ?_
                        rotate_left
                        · (intro w' hSw; go_simp; try with_reducible rfl)
                        try simp only [Act.put, List.setIfInBounds_toArray, List.set_cons_zero, List.set_cons_succ]
                        refine wpAnyH_take (i := 9) (oi := { dst := some 203, op := Op.move (Operand.tmp 24), type := 4, pos := "law.go:116", after := #[{ on := 8, ground := Ground.guard }], guard := some (8, true) }) (v := undef) rfl (by kernel_rfl) (by kernel_rfl) (by kernel_rfl) (fun _ _ _ h => h) (Or.inr ⟨by rfl, rfl⟩) (by assumption) ?_
                        try simp only [Act.put, List.setIfInBounds_toArray, List.set_cons_zero, List.set_cons_succ]
                        refine wpAnyH_take (i := 10) (oi := { dst := some 204, op := Op.unOp UnOp.not 4 (Operand.tmp 203), type := 4, pos := "law.go:116", after := #[{ on := 9, ground := Ground.data }, { on := 8, ground := Ground.guard }], guard := some (8, true) }) (v := undef) rfl (by kernel_rfl) (by kernel_rfl) (by kernel_rfl) (fun _ _ _ h => h) (Or.inr ⟨by rfl, rfl⟩) (by assumption) ?_
                        try simp only [Act.put, List.setIfInBounds_toArray, List.set_cons_zero, List.set_cons_succ]
                        refine wpAnyH_take (i := 11) (oi := { dst := some 205, op := Op.pick (Operand.tmp 202) (Operand.tmp 204) (Operand.const (Value.bool false)), type := 4, pos := "law.go:116", after := #[{ on := 8, ground := Ground.data }, { on := 10, ground := Ground.data }, { on := 6, ground := Ground.guard }], guard := some (6, false) }) (v := ?_) rfl (by kernel_rfl) (by kernel_rfl) (by kernel_rfl) (fun _ _ _ h => h) (Or.inl ⟨by rfl, ?_⟩) (by assumption) ?_
                        rotate_left
                        · (intro w' hSw; go_simp; try with_reducible rfl)
                        try simp only [Act.put, List.setIfInBounds_toArray, List.set_cons_zero, List.set_cons_succ]
                        refine wpAnyH_take (i := 12) (oi := { dst := some 206, op := Op.move (Operand.tmp 205), type := 4, pos := "law.go:116", after := #[{ on := 11, ground := Ground.data }, { on := 8, ground := Ground.chain }, { on := 6, ground := Ground.guard }], guard := some (6, false) }) (v := ?_) rfl (by kernel_rfl) (by kernel_rfl) (by kernel_rfl) (fun _ _ _ h => h) (Or.inl ⟨by rfl, ?_⟩) (by assumption) ?_
                        rotate_left
                        · (intro w' hSw; go_simp; try with_reducible rfl)
                        try simp only [Act.put, List.setIfInBounds_toArray, List.set_cons_zero, List.set_cons_succ]
                        refine wpAnyH_take (i := 13) (oi := { dst := some 207, op := Op.move (Operand.tmp 19), type := 22, pos := "law.go:116", after := #[{ on := 12, ground := Ground.guard }], guard := some (12, true) }) (v := undef) rfl (by kernel_rfl) (by kernel_rfl) (by kernel_rfl) (fun _ _ _ h => h) (Or.inr ⟨by rfl, rfl⟩) (by assumption) ?_
                        try simp only [Act.put, List.setIfInBounds_toArray, List.set_cons_zero, List.set_cons_succ]
                        refine wpAnyH_take (i := 14) (oi := { dst := some 208, op := Op.move (Operand.tmp 21), type := 3, pos := "law.go:116", after := #[{ on := 12, ground := Ground.guard }], guard := some (12, true) }) (v := undef) rfl (by kernel_rfl) (by kernel_rfl) (by kernel_rfl) (fun _ _ _ h => h) (Or.inr ⟨by rfl, rfl⟩) (by assumption) ?_
                        try simp only [Act.put, List.setIfInBounds_toArray, List.set_cons_zero, List.set_cons_succ]
                        refine wpAnyH_take (i := 15) (oi := { dst := some 209, op := Op.indexAddr 22 (Operand.tmp 207) (Operand.tmp 208), type := 0, pos := "law.go:116", after := #[{ on := 13, ground := Ground.data }, { on := 14, ground := Ground.data }, { on := 12, ground := Ground.guard }], guard := some (12, true) }) (v := undef) rfl (by kernel_rfl) (by kernel_rfl) (by kernel_rfl) (fun _ _ _ h => h) (Or.inr ⟨by rfl, rfl⟩) (by assumption) ?_
                        try simp only [Act.put, List.setIfInBounds_toArray, List.set_cons_zero, List.set_cons_succ]
                        refine wpAnyH_take (i := 16) (oi := { dst := some 210, op := Op.load 62 (Operand.tmp 209), type := 62, pos := "law.go:116", after := #[{ on := 15, ground := Ground.data }, { on := 12, ground := Ground.guard }], guard := some (12, true) }) (v := undef) rfl (by kernel_rfl) (by kernel_rfl) (by kernel_rfl) (fun _ _ _ h => h) (Or.inr ⟨by rfl, rfl⟩) (by assumption) ?_
                        try simp only [Act.put, List.setIfInBounds_toArray, List.set_cons_zero, List.set_cons_succ]
                        refine wpAnyH_take (i := 17) (oi := { dst := some 211, op := Op.move (Operand.tmp 17), type := 22, pos := "law.go:116", after := #[{ on := 12, ground := Ground.guard }], guard := some (12, true) }) (v := undef) rfl (by kernel_rfl) (by kernel_rfl) (by kernel_rfl) (fun _ _ _ h => h) (Or.inr ⟨by rfl, rfl⟩) (by assumption) ?_
                        try simp only [Act.put, List.setIfInBounds_toArray, List.set_cons_zero, List.set_cons_succ]
                        refine wpAnyH_take (i := 18) (oi := { dst := some 212, op := Op.move (Operand.tmp 21), type := 3, pos := "law.go:116", after := #[{ on := 12, ground := Ground.guard }], guard := some (12, true) }) (v := undef) rfl (by kernel_rfl) (by kernel_rfl) (by kernel_rfl) (fun _ _ _ h => h) (Or.inr ⟨by rfl, rfl⟩) (by assumption) ?_
                        try simp only [Act.put, List.setIfInBounds_toArray, List.set_cons_zero, List.set_cons_succ]
                        refine wpAnyH_take (i := 19) (oi := { dst := some 213, op := Op.indexAddr 22 (Operand.tmp 211) (Operand.tmp 212), type := 0, pos := "law.go:116", after := #[{ on := 17, ground := Ground.data }, { on := 18, ground := Ground.data }, { on := 12, ground := Ground.guard }], guard := some (12, true) }) (v := undef) rfl (by kernel_rfl) (by kernel_rfl) (by kernel_rfl) (fun _ _ _ h => h) (Or.inr ⟨by rfl, rfl⟩) (by assumption) ?_
                        try simp only [Act.put, List.setIfInBounds_toArray, List.set_cons_zero, List.set_cons_succ]
                        refine wpAnyH_take (i := 20) (oi := { dst := some 214, op := Op.load 62 (Operand.tmp 213), type := 62, pos := "law.go:116", after := #[{ on := 19, ground := Ground.data }, { on := 12, ground := Ground.guard }], guard := some (12, true) }) (v := undef) rfl (by kernel_rfl) (by kernel_rfl) (by kernel_rfl) (fun _ _ _ h => h) (Or.inr ⟨by rfl, rfl⟩) (by assumption) ?_
                        try simp only [Act.put, List.setIfInBounds_toArray, List.set_cons_zero, List.set_cons_succ]
                        refine wpAnyH_take (i := 21) (oi := { dst := some 215, op := Op.binOp BinOp.neq 62 (Operand.tmp 210) (Operand.tmp 214) 62, type := 4, pos := "law.go:116", after := #[{ on := 16, ground := Ground.data }, { on := 20, ground := Ground.data }, { on := 12, ground := Ground.guard }], guard := some (12, true) }) (v := undef) rfl (by kernel_rfl) (by kernel_rfl) (by kernel_rfl) (fun _ _ _ h => h) (Or.inr ⟨by rfl, rfl⟩) (by assumption) ?_
                        try simp only [Act.put, List.setIfInBounds_toArray, List.set_cons_zero, List.set_cons_succ]
                        refine wpAnyH_take (i := 22) (oi := { dst := some 216, op := Op.pick (Operand.tmp 206) (Operand.tmp 215) (Operand.const (Value.bool false)), type := 4, pos := "law.go:116", after := #[{ on := 12, ground := Ground.data }, { on := 21, ground := Ground.data }, { on := 6, ground := Ground.guard }], guard := some (6, false) }) (v := ?_) rfl (by kernel_rfl) (by kernel_rfl) (by kernel_rfl) (fun _ _ _ h => h) (Or.inl ⟨by rfl, ?_⟩) (by assumption) ?_
                        rotate_left
                        · (intro w' hSw; go_simp; try with_reducible rfl)
                        try simp only [Act.put, List.setIfInBounds_toArray, List.set_cons_zero, List.set_cons_succ]
                        refine wpAnyH_take (i := 23) (oi := { dst := some 217, op := Op.pick (Operand.tmp 200) (Operand.const (Value.bool true)) (Operand.tmp 216), type := 4, pos := "law.go:116", after := #[{ on := 6, ground := Ground.data }, { on := 22, ground := Ground.data }], guard := none }) (v := ?_) rfl (by kernel_rfl) (by kernel_rfl) (by kernel_rfl) (fun _ _ _ h => h) (Or.inl ⟨by rfl, ?_⟩) (by assumption) ?_
                        rotate_left
                        · (intro w' hSw; go_simp; try with_reducible rfl)
                        try simp only [Act.put, List.setIfInBounds_toArray, List.set_cons_zero, List.set_cons_succ]
                        refine wpAnyH_done (by kernel_rfl) ?_ _
                        clear hH0
                        go_wp2_with fail
                        exact ⟨⟨j + 1, by omega, by go_num, Lib.hid (below_trans HBQ.out ((Below.refl wr.heap.size wr).drew))⟩, by simp [intOf]; omega⟩
                      | true =>
                        obtain ⟨rfl, hxl, hxs, hxe⟩ := HF3.out rfl
                        cases hmt : meets WT j M with
                        | true =>
                          refine wp_region_held_drew (S := ext wr.drew) (by kernel_rfl) (Below.refl _ _) (fun hH0 => ?_)
                          refine wpAnyH_take (i := 0) (oi := { dst := some 194, op := Op.move (Operand.tmp 15), type := 22, pos := "law.go:116", after := #[], guard := none }) (v := ?_) rfl (by kernel_rfl) (by kernel_rfl) (by kernel_rfl) (fun _ _ _ h => h) (Or.inl ⟨by rfl, ?_⟩) (by assumption) ?_
                          rotate_left
                          · (intro w' hSw; go_simp; try with_reducible rfl)
                          try simp only [Act.put, List.setIfInBounds_toArray, List.set_cons_zero, List.set_cons_succ]
                          refine wpAnyH_take (i := 1) (oi := { dst := some 195, op := Op.move (Operand.tmp 21), type := 3, pos := "law.go:116", after := #[], guard := none }) (v := ?_) rfl (by kernel_rfl) (by kernel_rfl) (by kernel_rfl) (fun _ _ _ h => h) (Or.inl ⟨by rfl, ?_⟩) (by assumption) ?_
                          rotate_left
                          · (intro w' hSw; go_simp; try with_reducible rfl)
                          try simp only [Act.put, List.setIfInBounds_toArray, List.set_cons_zero, List.set_cons_succ]
                          refine wpAnyH_take (i := 2) (oi := { dst := some 196, op := Op.indexAddr 22 (Operand.tmp 194) (Operand.tmp 195), type := 0, pos := "law.go:116", after := #[{ on := 0, ground := Ground.data }, { on := 1, ground := Ground.data }], guard := none }) (v := ?_) rfl (by kernel_rfl) (by kernel_rfl) (by kernel_rfl) (fun _ _ _ h => h) (Or.inl ⟨by rfl, ?_⟩) (by assumption) ?_
                          rotate_left
                          · (intro w' hSw; go_simp; try with_reducible rfl)
                          try simp only [Act.put, List.setIfInBounds_toArray, List.set_cons_zero, List.set_cons_succ]
                          refine' wpAnyH_take (i := 3) (oi := { dst := some 197, op := Op.load 62 (Operand.tmp 196), type := 62, pos := "law.go:116", after := #[{ on := 2, ground := Ground.data }], guard := none }) (v := _) rfl (by kernel_rfl) (by kernel_rfl) (by kernel_rfl) (fun _ _ _ h => h) (ld_sec (by rfl) _ rfl b1 (o1 + j * 32) rfl sx HRS.out.1 (fun w' hw => Rd.rangeLater HRX2.out hb12 (below_drew hw))) (by assumption) ?_
                          try simp only [Act.put, List.setIfInBounds_toArray, List.set_cons_zero, List.set_cons_succ]
                          refine' wpAnyH_take (i := 4) (oi := { dst := some 198, op := Op.load 62 (Operand.tmp 22), type := 62, pos := "law.go:116", after := #[], guard := none }) (v := _) rfl (by kernel_rfl) (by kernel_rfl) (by kernel_rfl) (fun _ _ _ h => h) (ld_sec (by rfl) _ rfl w21.heap.size 0 rfl sx HRS.out.1 (fun w' hw => At.range (row_later A22.out (below_drew hw) hl22))) (by assumption) ?_
                          try simp only [Act.put, List.setIfInBounds_toArray, List.set_cons_zero, List.set_cons_succ]
                          refine' wpAnyH_take (i := 5) (oi := { dst := some 199, op := Op.binOp BinOp.neq 62 (Operand.tmp 197) (Operand.tmp 198) 62, type := 4, pos := "law.go:116", after := #[{ on := 3, ground := Ground.data }, { on := 4, ground := Ground.data }], guard := none }) (v := _) rfl (by kernel_rfl) (by kernel_rfl) (by kernel_rfl) (fun _ _ _ h => h) (neq_yields (by rfl) 62 _ _ _ rfl (u8s sx).toArray (u8s sx).toArray (by rfl) (by rfl) HSG true HEQ.out) (by assumption) ?_
                          try simp only [Act.put, List.setIfInBounds_toArray, List.set_cons_zero, List.set_cons_succ]
                          refine wpAnyH_take (i := 6) (oi := { dst := some 200, op := Op.move (Operand.tmp 199), type := 4, pos := "law.go:116", after := #[{ on := 5, ground := Ground.data }], guard := none }) (v := ?_) rfl (by kernel_rfl) (by kernel_rfl) (by kernel_rfl) (fun _ _ _ h => h) (Or.inl ⟨by rfl, ?_⟩) (by assumption) ?_
                          rotate_left
                          · (intro w' hSw; go_simp; try with_reducible rfl)
                          try simp only [Act.put, List.setIfInBounds_toArray, List.set_cons_zero, List.set_cons_succ]
                          refine wpAnyH_take (i := 7) (oi := { dst := some 201, op := Op.move (Operand.tmp 20), type := 4, pos := "law.go:116", after := #[{ on := 6, ground := Ground.guard }], guard := some (6, false) }) (v := ?_) rfl (by kernel_rfl) (by kernel_rfl) (by kernel_rfl) (fun _ _ _ h => h) (Or.inl ⟨by rfl, ?_⟩) (by assumption) ?_
                          rotate_left
                          · (intro w' hSw; go_simp; try with_reducible rfl)
                          try simp only [Act.put, List.setIfInBounds_toArray, List.set_cons_zero, List.set_cons_succ]
                          refine wpAnyH_take (i := 8) (oi := { dst := some 202, op := Op.move (Operand.tmp 201), type := 4, pos := "law.go:116", after := #[{ on := 7, ground := Ground.data }, { on := 6, ground := Ground.chain }, { on := 6, ground := Ground.guard }], guard := some (6, false) }) (v := ?_) rfl (by kernel_rfl) (by kernel_rfl) (by kernel_rfl) (fun _ _ _ h => h) (Or.inl ⟨by rfl, ?_⟩) (by assumption) ?_
                          rotate_left
                          · (intro w' hSw; go_simp; try with_reducible rfl)
                          try simp only [Act.put, List.setIfInBounds_toArray, List.set_cons_zero, List.set_cons_succ]
                          refine wpAnyH_take (i := 9) (oi := { dst := some 203, op := Op.move (Operand.tmp 24), type := 4, pos := "law.go:116", after := #[{ on := 8, ground := Ground.guard }], guard := some (8, true) }) (v := ?_) rfl (by kernel_rfl) (by kernel_rfl) (by kernel_rfl) (fun _ _ _ h => h) (Or.inl ⟨by rfl, ?_⟩) (by assumption) ?_
                          rotate_left
                          · (intro w' hSw; go_simp; try with_reducible rfl)
                          try simp only [Act.put, List.setIfInBounds_toArray, List.set_cons_zero, List.set_cons_succ]
                          refine wpAnyH_take (i := 10) (oi := { dst := some 204, op := Op.unOp UnOp.not 4 (Operand.tmp 203), type := 4, pos := "law.go:116", after := #[{ on := 9, ground := Ground.data }, { on := 8, ground := Ground.guard }], guard := some (8, true) }) (v := ?_) rfl (by kernel_rfl) (by kernel_rfl) (by kernel_rfl) (fun _ _ _ h => h) (Or.inl ⟨by rfl, ?_⟩) (by assumption) ?_
                          rotate_left
                          · (intro w' hSw; go_simp; try with_reducible rfl)
                          try simp only [Act.put, List.setIfInBounds_toArray, List.set_cons_zero, List.set_cons_succ]
                          refine wpAnyH_take (i := 11) (oi := { dst := some 205, op := Op.pick (Operand.tmp 202) (Operand.tmp 204) (Operand.const (Value.bool false)), type := 4, pos := "law.go:116", after := #[{ on := 8, ground := Ground.data }, { on := 10, ground := Ground.data }, { on := 6, ground := Ground.guard }], guard := some (6, false) }) (v := ?_) rfl (by kernel_rfl) (by kernel_rfl) (by kernel_rfl) (fun _ _ _ h => h) (Or.inl ⟨by rfl, ?_⟩) (by assumption) ?_
                          rotate_left
                          · (intro w' hSw; go_simp; try with_reducible rfl)
                          try simp only [Act.put, List.setIfInBounds_toArray, List.set_cons_zero, List.set_cons_succ]
                          refine wpAnyH_take (i := 12) (oi := { dst := some 206, op := Op.move (Operand.tmp 205), type := 4, pos := "law.go:116", after := #[{ on := 11, ground := Ground.data }, { on := 8, ground := Ground.chain }, { on := 6, ground := Ground.guard }], guard := some (6, false) }) (v := ?_) rfl (by kernel_rfl) (by kernel_rfl) (by kernel_rfl) (fun _ _ _ h => h) (Or.inl ⟨by rfl, ?_⟩) (by assumption) ?_
                          rotate_left
                          · (intro w' hSw; go_simp; try with_reducible rfl)
                          try simp only [Act.put, List.setIfInBounds_toArray, List.set_cons_zero, List.set_cons_succ]
                          refine wpAnyH_take (i := 13) (oi := { dst := some 207, op := Op.move (Operand.tmp 19), type := 22, pos := "law.go:116", after := #[{ on := 12, ground := Ground.guard }], guard := some (12, true) }) (v := undef) rfl (by kernel_rfl) (by kernel_rfl) (by kernel_rfl) (fun _ _ _ h => h) (Or.inr ⟨by rfl, rfl⟩) (by assumption) ?_
                          try simp only [Act.put, List.setIfInBounds_toArray, List.set_cons_zero, List.set_cons_succ]
                          refine wpAnyH_take (i := 14) (oi := { dst := some 208, op := Op.move (Operand.tmp 21), type := 3, pos := "law.go:116", after := #[{ on := 12, ground := Ground.guard }], guard := some (12, true) }) (v := undef) rfl (by kernel_rfl) (by kernel_rfl) (by kernel_rfl) (fun _ _ _ h => h) (Or.inr ⟨by rfl, rfl⟩) (by assumption) ?_
                          try simp only [Act.put, List.setIfInBounds_toArray, List.set_cons_zero, List.set_cons_succ]
                          refine wpAnyH_take (i := 15) (oi := { dst := some 209, op := Op.indexAddr 22 (Operand.tmp 207) (Operand.tmp 208), type := 0, pos := "law.go:116", after := #[{ on := 13, ground := Ground.data }, { on := 14, ground := Ground.data }, { on := 12, ground := Ground.guard }], guard := some (12, true) }) (v := undef) rfl (by kernel_rfl) (by kernel_rfl) (by kernel_rfl) (fun _ _ _ h => h) (Or.inr ⟨by rfl, rfl⟩) (by assumption) ?_
                          try simp only [Act.put, List.setIfInBounds_toArray, List.set_cons_zero, List.set_cons_succ]
                          refine wpAnyH_take (i := 16) (oi := { dst := some 210, op := Op.load 62 (Operand.tmp 209), type := 62, pos := "law.go:116", after := #[{ on := 15, ground := Ground.data }, { on := 12, ground := Ground.guard }], guard := some (12, true) }) (v := undef) rfl (by kernel_rfl) (by kernel_rfl) (by kernel_rfl) (fun _ _ _ h => h) (Or.inr ⟨by rfl, rfl⟩) (by assumption) ?_
                          try simp only [Act.put, List.setIfInBounds_toArray, List.set_cons_zero, List.set_cons_succ]
                          refine wpAnyH_take (i := 17) (oi := { dst := some 211, op := Op.move (Operand.tmp 17), type := 22, pos := "law.go:116", after := #[{ on := 12, ground := Ground.guard }], guard := some (12, true) }) (v := undef) rfl (by kernel_rfl) (by kernel_rfl) (by kernel_rfl) (fun _ _ _ h => h) (Or.inr ⟨by rfl, rfl⟩) (by assumption) ?_
                          try simp only [Act.put, List.setIfInBounds_toArray, List.set_cons_zero, List.set_cons_succ]
                          refine wpAnyH_take (i := 18) (oi := { dst := some 212, op := Op.move (Operand.tmp 21), type := 3, pos := "law.go:116", after := #[{ on := 12, ground := Ground.guard }], guard := some (12, true) }) (v := undef) rfl (by kernel_rfl) (by kernel_rfl) (by kernel_rfl) (fun _ _ _ h => h) (Or.inr ⟨by rfl, rfl⟩) (by assumption) ?_
                          try simp only [Act.put, List.setIfInBounds_toArray, List.set_cons_zero, List.set_cons_succ]
                          refine wpAnyH_take (i := 19) (oi := { dst := some 213, op := Op.indexAddr 22 (Operand.tmp 211) (Operand.tmp 212), type := 0, pos := "law.go:116", after := #[{ on := 17, ground := Ground.data }, { on := 18, ground := Ground.data }, { on := 12, ground := Ground.guard }], guard := some (12, true) }) (v := undef) rfl (by kernel_rfl) (by kernel_rfl) (by kernel_rfl) (fun _ _ _ h => h) (Or.inr ⟨by rfl, rfl⟩) (by assumption) ?_
                          try simp only [Act.put, List.setIfInBounds_toArray, List.set_cons_zero, List.set_cons_succ]
                          refine wpAnyH_take (i := 20) (oi := { dst := some 214, op := Op.load 62 (Operand.tmp 213), type := 62, pos := "law.go:116", after := #[{ on := 19, ground := Ground.data }, { on := 12, ground := Ground.guard }], guard := some (12, true) }) (v := undef) rfl (by kernel_rfl) (by kernel_rfl) (by kernel_rfl) (fun _ _ _ h => h) (Or.inr ⟨by rfl, rfl⟩) (by assumption) ?_
                          try simp only [Act.put, List.setIfInBounds_toArray, List.set_cons_zero, List.set_cons_succ]
                          refine wpAnyH_take (i := 21) (oi := { dst := some 215, op := Op.binOp BinOp.neq 62 (Operand.tmp 210) (Operand.tmp 214) 62, type := 4, pos := "law.go:116", after := #[{ on := 16, ground := Ground.data }, { on := 20, ground := Ground.data }, { on := 12, ground := Ground.guard }], guard := some (12, true) }) (v := undef) rfl (by kernel_rfl) (by kernel_rfl) (by kernel_rfl) (fun _ _ _ h => h) (Or.inr ⟨by rfl, rfl⟩) (by assumption) ?_
                          try simp only [Act.put, List.setIfInBounds_toArray, List.set_cons_zero, List.set_cons_succ]
                          refine wpAnyH_take (i := 22) (oi := { dst := some 216, op := Op.pick (Operand.tmp 206) (Operand.tmp 215) (Operand.const (Value.bool false)), type := 4, pos := "law.go:116", after := #[{ on := 12, ground := Ground.data }, { on := 21, ground := Ground.data }, { on := 6, ground := Ground.guard }], guard := some (6, false) }) (v := ?_) rfl (by kernel_rfl) (by kernel_rfl) (by kernel_rfl) (fun _ _ _ h => h) (Or.inl ⟨by rfl, ?_⟩) (by assumption) ?_
                          rotate_left
                          · (intro w' hSw; go_simp; try with_reducible rfl)
                          try simp only [Act.put, List.setIfInBounds_toArray, List.set_cons_zero, List.set_cons_succ]
                          refine wpAnyH_take (i := 23) (oi := { dst := some 217, op := Op.pick (Operand.tmp 200) (Operand.const (Value.bool true)) (Operand.tmp 216), type := 4, pos := "law.go:116", after := #[{ on := 6, ground := Ground.data }, { on := 22, ground := Ground.data }], guard := none }) (v := ?_) rfl (by kernel_rfl) (by kernel_rfl) (by kernel_rfl) (fun _ _ _ h => h) (Or.inl ⟨by rfl, ?_⟩) (by assumption) ?_
                          rotate_left
                          · (intro w' hSw; go_simp; try with_reducible rfl)
                          try simp only [Act.put, List.setIfInBounds_toArray, List.set_cons_zero, List.set_cons_succ]
                          refine wpAnyH_done (by kernel_rfl) ?_ _
                          clear hH0
                          go_wp2_with fail
                          exact ⟨⟨j + 1, by omega, by go_num, Lib.hid (below_trans HBQ.out ((Below.refl wr.heap.size wr).drew))⟩, by simp [intOf]; omega⟩
                        | false =>
                          have hjy : j < SF.length := by rw [HFL.out]; exact hjn
                          have hjz : j < X3.length := by rw [hxl]; exact hjn
                          obtain ⟨by1, oy1, hpy, _, _, hby, _, ry⟩ := row_at HY17.out HFS.out hjn
                          obtain ⟨bz1, oz1, hpz, _, _, hbz, _, rz⟩ := row_at HZ17.out hxs hjn
                          subst hpy
                          subst hpz
                          have hxj := hxe j hmt
                          rw [List.getElem?_eq_getElem hjz, List.getElem?_eq_getElem hjy] at hxj
                          have hry := Rd.rangeLater (ry j hjy) hby HBQ.out
                          have hrz := Rd.rangeLater (rz j hjz) hbz HBQ.out
                          rw [Option.some.inj hxj] at hrz
                          have HRY := Lib.hid hry
                          have HRZ := Lib.hid hrz
                          have HRSY := Lib.hid (HFS.out _ (List.getElem_mem hjy))
                          have hby2 := Nat.lt_of_lt_of_le hby HBQ.out.size
                          have hbz2 := Nat.lt_of_lt_of_le hbz HBQ.out.size
                          clear hxj hry hrz ry rz hxe
                          generalize SF[j] = sy at *
                          have HEQY : Hid (∀ w, (Op.equalIn 10000 62 (.agg (u8s sy).toArray) (.agg (u8s sy).toArray)).run Try.prog w = .ok true w) := Lib.hid fun w => by rw [eqIn_sec w HRSY.out HRSY.out, decide_eq_true rfl]
                          refine wp_region_held_drew (S := ext wr.drew) (by kernel_rfl) (Below.refl _ _) (fun hH0 => ?_)
                          refine wpAnyH_take (i := 0) (oi := { dst := some 194, op := Op.move (Operand.tmp 15), type := 22, pos := "law.go:116", after := #[], guard := none }) (v := ?_) rfl (by kernel_rfl) (by kernel_rfl) (by kernel_rfl) (fun _ _ _ h => h) (Or.inl ⟨by rfl, ?_⟩) (by assumption) ?_
                          rotate_left
                          · (intro w' hSw; go_simp; try with_reducible rfl)
                          try simp only [Act.put, List.setIfInBounds_toArray, List.set_cons_zero, List.set_cons_succ]
                          refine wpAnyH_take (i := 1) (oi := { dst := some 195, op := Op.move (Operand.tmp 21), type := 3, pos := "law.go:116", after := #[], guard := none }) (v := ?_) rfl (by kernel_rfl) (by kernel_rfl) (by kernel_rfl) (fun _ _ _ h => h) (Or.inl ⟨by rfl, ?_⟩) (by assumption) ?_
                          rotate_left
                          · (intro w' hSw; go_simp; try with_reducible rfl)
                          try simp only [Act.put, List.setIfInBounds_toArray, List.set_cons_zero, List.set_cons_succ]
                          refine wpAnyH_take (i := 2) (oi := { dst := some 196, op := Op.indexAddr 22 (Operand.tmp 194) (Operand.tmp 195), type := 0, pos := "law.go:116", after := #[{ on := 0, ground := Ground.data }, { on := 1, ground := Ground.data }], guard := none }) (v := ?_) rfl (by kernel_rfl) (by kernel_rfl) (by kernel_rfl) (fun _ _ _ h => h) (Or.inl ⟨by rfl, ?_⟩) (by assumption) ?_
                          rotate_left
                          · (intro w' hSw; go_simp; try with_reducible rfl)
                          try simp only [Act.put, List.setIfInBounds_toArray, List.set_cons_zero, List.set_cons_succ]
                          refine' wpAnyH_take (i := 3) (oi := { dst := some 197, op := Op.load 62 (Operand.tmp 196), type := 62, pos := "law.go:116", after := #[{ on := 2, ground := Ground.data }], guard := none }) (v := _) rfl (by kernel_rfl) (by kernel_rfl) (by kernel_rfl) (fun _ _ _ h => h) (ld_sec (by rfl) _ rfl b1 (o1 + j * 32) rfl sx HRS.out.1 (fun w' hw => Rd.rangeLater HRX2.out hb12 (below_drew hw))) (by assumption) ?_
                          try simp only [Act.put, List.setIfInBounds_toArray, List.set_cons_zero, List.set_cons_succ]
                          refine' wpAnyH_take (i := 4) (oi := { dst := some 198, op := Op.load 62 (Operand.tmp 22), type := 62, pos := "law.go:116", after := #[], guard := none }) (v := _) rfl (by kernel_rfl) (by kernel_rfl) (by kernel_rfl) (fun _ _ _ h => h) (ld_sec (by rfl) _ rfl w21.heap.size 0 rfl sx HRS.out.1 (fun w' hw => At.range (row_later A22.out (below_drew hw) hl22))) (by assumption) ?_
                          try simp only [Act.put, List.setIfInBounds_toArray, List.set_cons_zero, List.set_cons_succ]
                          refine' wpAnyH_take (i := 5) (oi := { dst := some 199, op := Op.binOp BinOp.neq 62 (Operand.tmp 197) (Operand.tmp 198) 62, type := 4, pos := "law.go:116", after := #[{ on := 3, ground := Ground.data }, { on := 4, ground := Ground.data }], guard := none }) (v := _) rfl (by kernel_rfl) (by kernel_rfl) (by kernel_rfl) (fun _ _ _ h => h) (neq_yields (by rfl) 62 _ _ _ rfl (u8s sx).toArray (u8s sx).toArray (by rfl) (by rfl) HSG true HEQ.out) (by assumption) ?_
                          try simp only [Act.put, List.setIfInBounds_toArray, List.set_cons_zero, List.set_cons_succ]
                          refine wpAnyH_take (i := 6) (oi := { dst := some 200, op := Op.move (Operand.tmp 199), type := 4, pos := "law.go:116", after := #[{ on := 5, ground := Ground.data }], guard := none }) (v := ?_) rfl (by kernel_rfl) (by kernel_rfl) (by kernel_rfl) (fun _ _ _ h => h) (Or.inl ⟨by rfl, ?_⟩) (by assumption) ?_
                          rotate_left
                          · (intro w' hSw; go_simp; try with_reducible rfl)
                          try simp only [Act.put, List.setIfInBounds_toArray, List.set_cons_zero, List.set_cons_succ]
                          refine wpAnyH_take (i := 7) (oi := { dst := some 201, op := Op.move (Operand.tmp 20), type := 4, pos := "law.go:116", after := #[{ on := 6, ground := Ground.guard }], guard := some (6, false) }) (v := ?_) rfl (by kernel_rfl) (by kernel_rfl) (by kernel_rfl) (fun _ _ _ h => h) (Or.inl ⟨by rfl, ?_⟩) (by assumption) ?_
                          rotate_left
                          · (intro w' hSw; go_simp; try with_reducible rfl)
                          try simp only [Act.put, List.setIfInBounds_toArray, List.set_cons_zero, List.set_cons_succ]
                          refine wpAnyH_take (i := 8) (oi := { dst := some 202, op := Op.move (Operand.tmp 201), type := 4, pos := "law.go:116", after := #[{ on := 7, ground := Ground.data }, { on := 6, ground := Ground.chain }, { on := 6, ground := Ground.guard }], guard := some (6, false) }) (v := ?_) rfl (by kernel_rfl) (by kernel_rfl) (by kernel_rfl) (fun _ _ _ h => h) (Or.inl ⟨by rfl, ?_⟩) (by assumption) ?_
                          rotate_left
                          · (intro w' hSw; go_simp; try with_reducible rfl)
                          try simp only [Act.put, List.setIfInBounds_toArray, List.set_cons_zero, List.set_cons_succ]
                          refine wpAnyH_take (i := 9) (oi := { dst := some 203, op := Op.move (Operand.tmp 24), type := 4, pos := "law.go:116", after := #[{ on := 8, ground := Ground.guard }], guard := some (8, true) }) (v := ?_) rfl (by kernel_rfl) (by kernel_rfl) (by kernel_rfl) (fun _ _ _ h => h) (Or.inl ⟨by rfl, ?_⟩) (by assumption) ?_
                          rotate_left
                          · (intro w' hSw; go_simp; try with_reducible rfl)
                          try simp only [Act.put, List.setIfInBounds_toArray, List.set_cons_zero, List.set_cons_succ]
                          refine wpAnyH_take (i := 10) (oi := { dst := some 204, op := Op.unOp UnOp.not 4 (Operand.tmp 203), type := 4, pos := "law.go:116", after := #[{ on := 9, ground := Ground.data }, { on := 8, ground := Ground.guard }], guard := some (8, true) }) (v := ?_) rfl (by kernel_rfl) (by kernel_rfl) (by kernel_rfl) (fun _ _ _ h => h) (Or.inl ⟨by rfl, ?_⟩) (by assumption) ?_
                          rotate_left
                          · (intro w' hSw; go_simp; try with_reducible rfl)
                          try simp only [Act.put, List.setIfInBounds_toArray, List.set_cons_zero, List.set_cons_succ]
                          refine wpAnyH_take (i := 11) (oi := { dst := some 205, op := Op.pick (Operand.tmp 202) (Operand.tmp 204) (Operand.const (Value.bool false)), type := 4, pos := "law.go:116", after := #[{ on := 8, ground := Ground.data }, { on := 10, ground := Ground.data }, { on := 6, ground := Ground.guard }], guard := some (6, false) }) (v := ?_) rfl (by kernel_rfl) (by kernel_rfl) (by kernel_rfl) (fun _ _ _ h => h) (Or.inl ⟨by rfl, ?_⟩) (by assumption) ?_
                          rotate_left
                          · (intro w' hSw; go_simp; try with_reducible rfl)
                          try simp only [Act.put, List.setIfInBounds_toArray, List.set_cons_zero, List.set_cons_succ]
                          refine wpAnyH_take (i := 12) (oi := { dst := some 206, op := Op.move (Operand.tmp 205), type := 4, pos := "law.go:116", after := #[{ on := 11, ground := Ground.data }, { on := 8, ground := Ground.chain }, { on := 6, ground := Ground.guard }], guard := some (6, false) }) (v := ?_) rfl (by kernel_rfl) (by kernel_rfl) (by kernel_rfl) (fun _ _ _ h => h) (Or.inl ⟨by rfl, ?_⟩) (by assumption) ?_
                          rotate_left
                          · (intro w' hSw; go_simp; try with_reducible rfl)
                          try simp only [Act.put, List.setIfInBounds_toArray, List.set_cons_zero, List.set_cons_succ]
                          refine wpAnyH_take (i := 13) (oi := { dst := some 207, op := Op.move (Operand.tmp 19), type := 22, pos := "law.go:116", after := #[{ on := 12, ground := Ground.guard }], guard := some (12, true) }) (v := ?_) rfl (by kernel_rfl) (by kernel_rfl) (by kernel_rfl) (fun _ _ _ h => h) (Or.inl ⟨by rfl, ?_⟩) (by assumption) ?_
                          rotate_left
                          · (intro w' hSw; go_simp; try with_reducible rfl)
                          try simp only [Act.put, List.setIfInBounds_toArray, List.set_cons_zero, List.set_cons_succ]
                          refine wpAnyH_take (i := 14) (oi := { dst := some 208, op := Op.move (Operand.tmp 21), type := 3, pos := "law.go:116", after := #[{ on := 12, ground := Ground.guard }], guard := some (12, true) }) (v := ?_) rfl (by kernel_rfl) (by kernel_rfl) (by kernel_rfl) (fun _ _ _ h => h) (Or.inl ⟨by rfl, ?_⟩) (by assumption) ?_
                          rotate_left
                          · (intro w' hSw; go_simp; try with_reducible rfl)
                          try simp only [Act.put, List.setIfInBounds_toArray, List.set_cons_zero, List.set_cons_succ]
                          refine wpAnyH_take (i := 15) (oi := { dst := some 209, op := Op.indexAddr 22 (Operand.tmp 207) (Operand.tmp 208), type := 0, pos := "law.go:116", after := #[{ on := 13, ground := Ground.data }, { on := 14, ground := Ground.data }, { on := 12, ground := Ground.guard }], guard := some (12, true) }) (v := ?_) rfl (by kernel_rfl) (by kernel_rfl) (by kernel_rfl) (fun _ _ _ h => h) (Or.inl ⟨by rfl, ?_⟩) (by assumption) ?_
                          rotate_left
                          · (intro w' hSw; go_simp; try with_reducible rfl)
                          try simp only [Act.put, List.setIfInBounds_toArray, List.set_cons_zero, List.set_cons_succ]
                          refine' wpAnyH_take (i := 16) (oi := { dst := some 210, op := Op.load 62 (Operand.tmp 209), type := 62, pos := "law.go:116", after := #[{ on := 15, ground := Ground.data }, { on := 12, ground := Ground.guard }], guard := some (12, true) }) (v := _) rfl (by kernel_rfl) (by kernel_rfl) (by kernel_rfl) (fun _ _ _ h => h) (ld_sec (by rfl) _ rfl bz1 (oz1 + j * 32) rfl sy HRSY.out.1 (fun w' hw => Rd.rangeLater HRZ.out hbz2 (below_drew hw))) (by assumption) ?_
                          try simp only [Act.put, List.setIfInBounds_toArray, List.set_cons_zero, List.set_cons_succ]
                          refine wpAnyH_take (i := 17) (oi := { dst := some 211, op := Op.move (Operand.tmp 17), type := 22, pos := "law.go:116", after := #[{ on := 12, ground := Ground.guard }], guard := some (12, true) }) (v := ?_) rfl (by kernel_rfl) (by kernel_rfl) (by kernel_rfl) (fun _ _ _ h => h) (Or.inl ⟨by rfl, ?_⟩) (by assumption) ?_
                          rotate_left
                          · (intro w' hSw; go_simp; try with_reducible rfl)
                          try simp only [Act.put, List.setIfInBounds_toArray, List.set_cons_zero, List.set_cons_succ]
                          refine wpAnyH_take (i := 18) (oi := { dst := some 212, op := Op.move (Operand.tmp 21), type := 3, pos := "law.go:116", after := #[{ on := 12, ground := Ground.guard }], guard := some (12, true) }) (v := ?_) rfl (by kernel_rfl) (by kernel_rfl) (by kernel_rfl) (fun _ _ _ h => h) (Or.inl ⟨by rfl, ?_⟩) (by assumption) ?_
                          rotate_left
                          · (intro w' hSw; go_simp; try with_reducible rfl)
                          try simp only [Act.put, List.setIfInBounds_toArray, List.set_cons_zero, List.set_cons_succ]
                          refine wpAnyH_take (i := 19) (oi := { dst := some 213, op := Op.indexAddr 22 (Operand.tmp 211) (Operand.tmp 212), type := 0, pos := "law.go:116", after := #[{ on := 17, ground := Ground.data }, { on := 18, ground := Ground.data }, { on := 12, ground := Ground.guard }], guard := some (12, true) }) (v := ?_) rfl (by kernel_rfl) (by kernel_rfl) (by kernel_rfl) (fun _ _ _ h => h) (Or.inl ⟨by rfl, ?_⟩) (by assumption) ?_
                          rotate_left
                          · (intro w' hSw; go_simp; try with_reducible rfl)
                          try simp only [Act.put, List.setIfInBounds_toArray, List.set_cons_zero, List.set_cons_succ]
                          refine' wpAnyH_take (i := 20) (oi := { dst := some 214, op := Op.load 62 (Operand.tmp 213), type := 62, pos := "law.go:116", after := #[{ on := 19, ground := Ground.data }, { on := 12, ground := Ground.guard }], guard := some (12, true) }) (v := _) rfl (by kernel_rfl) (by kernel_rfl) (by kernel_rfl) (fun _ _ _ h => h) (ld_sec (by rfl) _ rfl by1 (oy1 + j * 32) rfl sy HRSY.out.1 (fun w' hw => Rd.rangeLater HRY.out hby2 (below_drew hw))) (by assumption) ?_
                          try simp only [Act.put, List.setIfInBounds_toArray, List.set_cons_zero, List.set_cons_succ]
                          refine' wpAnyH_take (i := 21) (oi := { dst := some 215, op := Op.binOp BinOp.neq 62 (Operand.tmp 210) (Operand.tmp 214) 62, type := 4, pos := "law.go:116", after := #[{ on := 16, ground := Ground.data }, { on := 20, ground := Ground.data }, { on := 12, ground := Ground.guard }], guard := some (12, true) }) (v := _) rfl (by kernel_rfl) (by kernel_rfl) (by kernel_rfl) (fun _ _ _ h => h) (neq_yields (by rfl) 62 _ _ _ rfl (u8s sy).toArray (u8s sy).toArray (by rfl) (by rfl) HSG true HEQY.out) (by assumption) ?_
                          try simp only [Act.put, List.setIfInBounds_toArray, List.set_cons_zero, List.set_cons_succ]
                          refine wpAnyH_take (i := 22) (oi := { dst := some 216, op := Op.pick (Operand.tmp 206) (Operand.tmp 215) (Operand.const (Value.bool false)), type := 4, pos := "law.go:116", after := #[{ on := 12, ground := Ground.data }, { on := 21, ground := Ground.data }, { on := 6, ground := Ground.guard }], guard := some (6, false) }) (v := ?_) rfl (by kernel_rfl) (by kernel_rfl) (by kernel_rfl) (fun _ _ _ h => h) (Or.inl ⟨by rfl, ?_⟩) (by assumption) ?_
                          rotate_left
                          · (intro w' hSw; go_simp; try with_reducible rfl)
                          try simp only [Act.put, List.setIfInBounds_toArray, List.set_cons_zero, List.set_cons_succ]
                          refine wpAnyH_take (i := 23) (oi := { dst := some 217, op := Op.pick (Operand.tmp 200) (Operand.const (Value.bool true)) (Operand.tmp 216), type := 4, pos := "law.go:116", after := #[{ on := 6, ground := Ground.data }, { on := 22, ground := Ground.data }], guard := none }) (v := ?_) rfl (by kernel_rfl) (by kernel_rfl) (by kernel_rfl) (fun _ _ _ h => h) (Or.inl ⟨by rfl, ?_⟩) (by assumption) ?_
                          rotate_left
                          · (intro w' hSw; go_simp; try with_reducible rfl)
                          try simp only [Act.put, List.setIfInBounds_toArray, List.set_cons_zero, List.set_cons_succ]
                          refine wpAnyH_done (by kernel_rfl) ?_ _
                          clear hH0
                          go_wp2_with fail
                          exact ⟨⟨j + 1, by omega, by go_num, Lib.hid (below_trans HBQ.out ((Below.refl wr.heap.size wr).drew))⟩, by simp [intOf]; omega⟩
                · obtain rfl : n = j := by omega
                  go_wp2_with fail
                  go_ret
                  exact ⟨rfl, below_trans HB4.out (below_trans HV17.out HBJ.out)⟩
      · by_cases hlt : n < 1
        · have hlti : (n : Int) < 1 := by omega
          go_wp2_with (first | (go_at_call 7; refine (HK.out _).mono ?_; rintro e w2 ⟨rfl, hb2⟩; have HB2 := Lib.hid hb2; clear hb2) | (go_at_call 23; refine (cfrom_no _ pb n cb (by omega) (by omega)).mono ?_; rintro e w3 ⟨rfl, hb3⟩; have HB3 := Lib.hid hb3; clear hb3) | (go_at_call 24; refine (num06 _ _).mono ?_; rintro e wz ⟨rfl, rfl⟩))
          go_ret
          exact ⟨rfl, below_trans HB2.out HB3.out⟩
        · have hgti : (65 : Int) < n := by omega
          go_wp2_with (first | (go_at_call 7; refine (HK.out _).mono ?_; rintro e w2 ⟨rfl, hb2⟩; have HB2 := Lib.hid hb2; clear hb2) | (go_at_call 23; refine (cfrom_no _ pb n cb (by omega) (by omega)).mono ?_; rintro e w3 ⟨rfl, hb3⟩; have HB3 := Lib.hid hb3; clear hb3) | (go_at_call 24; refine (num06 _ _).mono ?_; rintro e wz ⟨rfl, rfl⟩))
          go_ret
          exact ⟨rfl, below_trans HB2.out HB3.out⟩
theorem walkCrashKeeps (pb : Option Addr) (n cb : Nat) (base : List (List Int)) (p : Option Addr) (m c : Nat) (l : List Act0) (k : Int) (wk : (Lit.int .u64 k).wf = true) (W : World)
    (h1 : Rd W 32 (.slice pb n cb) n (cellsOf base)) (hn : n ≤ maxLen) (hsec : Secs base) (h2 : Rd W 38 (.slice p m c) m ((l.map Act0.c).flatten)) (hm : m ≤ maxLen) (hok : ∀ a ∈ l, a.ok W) :
    Calls Try.prog 5 #[.slice pb n cb, .slice p m c, .int .u64 k] W fun e w' => e = .returned (.bool true) ∧ Below W.heap.size W w' := by
  obtain ⟨k, rfl, hk⟩ := wf_u64 wk
  exact walkK pb n cb base p m c l k hk W h1 hn hsec h2 hm hok
end Go.Proofs.Ytpnepooobmbfbaa.dsk
