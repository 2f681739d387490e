/- What LookReads wants, part 22. -/
import Derived.Test.YtofnciffdhjacaaGreatDoorLookReadsR
import Derived.Test.YtofnciffdhjacaaGreatDoorLookReadsU
/- What the code's used gives: an iterator over the entries that are used, with their numbers. -/
namespace Go.Proofs.YtofnciffdhjacaaGreatDoor.lk
set_option maxRecDepth 100000
open Go.ChangeShapes Go.WideShapes Go.ChangeAt Go.RowKit
open Go.Proofs.YtofnciffdhjacaaGreatDoor.rows
open Go.Proofs.YtofnciffdhjacaaGreatDoor.sec
open Go.Proofs.YtofnciffdhjacaaGreatDoor.dsk (wf64)
open Go.Proofs.YtofnciffdhjacaaGreatDoor.ly
open Go.Proofs.YtofnciffdhjacaaGreatDoor.rng
set_option linter.unusedVariables false
set_option linter.unusedSimpArgs false
attribute [local go_sem] Oper.semAt_some

/-- what the rounds of a range over the disk's entries may turn of what was laid since: rows that hold no function and no disk -/
def softE (o : Obj) : Prop := ∃ cs t fr, o = .cells cs t fr ∧ t ≠ 25 ∧ t ≠ 92
theorem soft_cells (o : Obj) (h : softE o) : o.isCells = true := by
  obtain ⟨cs, t, fr, rfl, _⟩ := h
  rfl
theorem soft_disk {v : Value} : ¬ softE (.cells #[v] 25 (0, 0)) := fun ⟨cs, t, fr, h, h1, _⟩ => by
  injection h with _ h2
  exact h1 h2.symm
theorem soft_func {v : Value} : ¬ softE (.cells #[v] 92 (0, 0)) := fun ⟨cs, t, fr, h, _, h1⟩ => by
  injection h with _ h2
  exact h1 h2.symm
/-- the numbers below k of which p tells yes -/
def those (p : Nat → Bool) (k : Nat) : List Nat := (List.range k).filter p
theorem those_yes {p : Nat → Bool} {k : Nat} (h : p k = true) : those p (k + 1) = those p k ++ [k] := by
  rw [those, List.range_succ, List.filter_append]; simp [h, those]
theorem those_no {p : Nat → Bool} {k : Nat} (h : p k = false) : those p (k + 1) = those p k := by
  rw [those, List.range_succ, List.filter_append]; simp [h, those]
theorem those_pre (p : Nat → Bool) {k : Nat} : ∀ {m : Nat}, k ≤ m → those p k <+: those p m
  | 0, h => by obtain rfl : k = 0 := by omega
               exact List.prefix_refl _
  | m + 1, h => by
    by_cases e : k = m + 1
    · subst e; exact List.prefix_refl _
    · refine (those_pre p (k := k) (m := m) (by omega)).trans ?_
      cases hp : p m with
      | true => rw [those_yes hp]; exact List.prefix_append _ _
      | false => rw [those_no hp]; exact List.prefix_refl _
theorem those_mem {p : Nat → Bool} {k j : Nat} : j ∈ those p k ↔ j < k ∧ p j = true := by simp [those]
def usedB (ss : List (List Int)) (k : Nat) : Bool := (entAt ss (k : Int)).used

set_option maxRecDepth 100000 in
set_option maxHeartbeats 2000000 in
theorem used_seq (w0 : World) (d : Value) (ss : List (List Int)) (hd : Dk w0 d ss) (bd : Nat) (m : Nat → Obj → Prop) (w : World) (hb : Below w0.heap.size w0 w) (hbox : Go.Boxed w bd 25 d) (hZ : ∀ b o, m b o → w0.heap.size ≤ b) (hZd : ∀ v, ¬ m bd (.cells #[v] 25 (0, 0))) :
    Seq Tryz.prog 47 #[.pointer (some ⟨bd, 0, none⟩)] (fun k : Nat => #[.int .i64 (k : Int), aggE (entAt ss (k : Int))]) softE m (fun ys => ys = those (usedB ss) 24) (fun pre => pre <+: those (usedB ss) 24) w := by
  intro l J Jx W hW _ hJ hJx hY h0
  have HJ := Lib.hid hJ
  have HY := Lib.hid hY
  have HZ := Lib.hid hZ
  have HZD := Lib.hid hZd
  have HB0 : Hid (Below w0.heap.size w0 W) := Lib.hid (hb.trans (hW.mono hb.size))
  have HX0 : Hid (Go.Boxed W bd 25 d) := Lib.hid ((hW.block _ hbox.lt).trans hbox)
  have H0 := Lib.hid h0
  have HE := Lib.hid fun (k : Nat) (hk : k < 24) w' (h : Below w0.heap.size w0 w') => cent_any w' d ss (k : Int) (hd.later h) (wf_byte (by omega))
  clear hJ hY hZ hZd hb hW hbox h0 hd hJx
  refine (callsIn_wide (n := 10)).1 (callsIn_of_wp Tryz.func47 rfl trivial ?_ rfl)
  simp only [Tryz.ntmps47, List.size_toArray, List.length_cons, List.length_nil, Nat.reduceAdd, Nat.reduceSub, Array.replicate_succ, Array.replicate_zero, List.push_toArray, List.append_toArray, List.nil_append, List.cons_append]
  gi_wp2
  gi_loopw [5] (fun kv wr => ∃ k : Nat, k ≤ 24 ∧ kv = .int .i64 (k : Int) ∧ Hid (J (those (usedB ss) k) wr) ∧ Hid (Below w0.heap.size w0 wr) ∧ Hid (Go.Boxed wr bd 25 d) ∧ Hid (W.heap.size ≤ wr.heap.size))
    (fun kv _ => 24 - (intOf kv).toNat)
  case atStart => exact ⟨0, Nat.zero_le _, rfl, H0, HB0, HX0, Lib.hid (Nat.le_refl _)⟩
  case round =>
    obtain ⟨k, hk, rfl, HJS, HB, HX, HS⟩ := hrel
    by_cases hlt : k < 24
    · have hlt1 : (k : Int) < 24 := by omega
      have HEk := Lib.hid (HE.out k hlt wr HB.out)
      have HYk := Lib.hid fun W1 hj hs hp => HY.out (those (usedB ss) k) k W1 hj hs hp
      have cd := HX.out.cell
      have hub : usedB ss k = (entAt ss (k : Int)).used := rfl
      generalize entAt ss (k : Int) = x at HEk HYk hub
      obtain ⟨u, pa, nm, tg⟩ := x
      simp only at hub
      cases u with
      | false =>
        have HT := Lib.hid (those_no hub)
        clear hub HYk
        gi_wp2_with (refine ⟨trivial, ?_⟩; gi_at_call 9; refine (callsIn_wide.2 HEk.out).mono ?_; rintro e w2 ⟨rfl, hb2⟩; have HB2 := Lib.hid hb2; clear hb2)
        all_goals
          refine ⟨fun _ h => (by cases h), ?_⟩
          gi_wp2
          go_roundw
          case rel => exact ⟨k + 1, by omega, by go_num, Lib.hid (by rw [HT.out]; exact HJ.out _ _ _ HJS.out (Calm.of_below (below_alloc HB2.out _))), Lib.hid (HB.out.trans ((below_alloc HB2.out _).mono HB.out.size)), Lib.hid ((Calm.of_below (B := 0) (below_alloc HB2.out _)).boxed HX.out), Lib.hid (Nat.le_trans HS.out (below_alloc HB2.out _).size)⟩
          case measure => simp [intOf]; omega
      | true =>
        have HT := Lib.hid (those_yes hub)
        have HP : Hid (those (usedB ss) k ++ [k] <+: those (usedB ss) 24) := Lib.hid (by rw [← HT.out]; exact those_pre _ (by omega))
        clear hub
        have HYw := Lib.hid fun w2 (hb2 : Below wr.heap.size wr w2) => yield_any 9 (HYk.out (w2.alloc (.cells #[.bool true, .int .i64 pa, .string nm, .int .i64 tg] 34)) (HJ.out _ _ _ HJS.out (Calm.of_below (below_alloc hb2 _))) (Nat.le_trans HS.out (below_alloc hb2 _).size) HP.out)
        gi_wp2_with (refine ⟨trivial, ?_⟩; gi_at_call 9; refine (callsIn_wide.2 HEk.out).mono ?_; rintro e w2 ⟨rfl, hb2⟩; have HB2 := Lib.hid hb2; obtain ⟨fn, tmps, assign, body, hy, hR⟩ := HYw.out w2 hb2; replace hy : (Instr.yield l #[.int .i64 (k : Int), .agg #[.bool true, .int .i64 pa, .string nm, .int .i64 tg]]).run Tryz.prog (w2.alloc (.cells #[.bool true, .int .i64 pa, .string nm, .int .i64 tg] 34)) = .ok (.round l fn tmps assign body) (w2.alloc (.cells #[.bool true, .int .i64 pa, .string nm, .int .i64 tg] 34)) := hy; clear hb2)
        refine hR.mono ?_
        have HBa := Lib.hid (below_alloc HB2.out (.cells #[.bool true, .int .i64 pa, .string nm, .int .i64 tg] 34))
        rintro e W3 (⟨rfl, hJ3, hT3⟩ | ⟨rfl, hJx3, hT3⟩)
        · have HJ3 := Lib.hid hJ3
          have HB3 : Hid (Below w0.heap.size w0 W3) := Lib.hid ((HB.out.trans (HBa.out.mono HB.out.size)).trans (hT3.below (Nat.le_trans HB.out.size HBa.out.size) fun i o hi => HZ.out i o hi))
          have HX3 : Hid (Go.Boxed W3 bd 25 d) := Lib.hid (hT3.keep _ _ ((Calm.of_below (B := 0) HBa.out).boxed HX.out) (HZD.out _))
          have HS3 : Hid (W.heap.size ≤ W3.heap.size) := Lib.hid (Nat.le_trans HS.out (Nat.le_trans HBa.out.size hT3.size))
          clear hy hR hJ3 hT3 HBa HB2
          gi_wp2
          go_roundw
          case rel => exact ⟨k + 1, by omega, by go_num, Lib.hid (by rw [HT.out]; exact HJ3.out), HB3, HX3, HS3⟩
          case measure => simp [intOf]; omega
        · have HJX3 := Lib.hid hJx3
          clear hy hR hJx3 hT3 HBa HB2
          gi_wp2
          refine bodyPost_ret (results_none rfl _ _ _) rfl ?_
          exact ⟨⟨_, rfl⟩, .inr ⟨_, HP.out, HJX3.out⟩⟩
    · obtain rfl : k = 24 := by omega
      gi_wp2
      go_end0
      exact ⟨⟨_, rfl⟩, .inl ⟨_, rfl, HJS.out⟩⟩
end Go.Proofs.YtofnciffdhjacaaGreatDoor.lk
/- What the code's Taken gives. -/
namespace Go.Proofs.YtofnciffdhjacaaGreatDoor.lk
set_option maxRecDepth 100000
open Go.ChangeShapes Go.WideShapes Go.ChangeAt Go.RowKit
open Go.Proofs.YtofnciffdhjacaaGreatDoor.rows
open Go.Proofs.YtofnciffdhjacaaGreatDoor.sec
open Go.Proofs.YtofnciffdhjacaaGreatDoor.dsk (wf64)
open Go.Proofs.YtofnciffdhjacaaGreatDoor.ly
open Go.Proofs.YtofnciffdhjacaaGreatDoor.rng
set_option linter.unusedVariables false
set_option linter.unusedSimpArgs false
attribute [local go_sem] Oper.semAt_some

theorem cused_any (p : Option Addr) (w : World) : Calls Tryz.prog 28 #[.pointer p] w fun e w' => e = .returned (.func (.func 47) #[] #[.pointer (some ⟨w.heap.size, 0, none⟩)]) ∧ w' = w.alloc (.cells #[.pointer p] 25) := by
  go_enter Tryz.func28, Tryz.ntmps28
  go_wp2
  go_ret
  exact ⟨rfl, rfl⟩
theorem dk_ptr {w : World} {d : Value} {ss : List (List Int)} (h : Dk w d ss) : ∃ p, d = .pointer p := by
  rcases h with ⟨rfl, _⟩ | ⟨F, st, ⟨z, g, vs, vw, vn, vl, vf, rfl, _⟩, _⟩
  · exact ⟨_, rfl⟩
  · exact ⟨_, rfl⟩
/-- none of the numbers names inode i -/
def noneOf (ss : List (List Int)) (i : Int) (l : List Nat) : Prop := ∀ k, k ∈ l → (entAt ss (k : Int)).target ≠ i
theorem taken_no {ss : List (List Int)} {i : Int} (h : noneOf ss i (those (usedB ss) 24)) (hi : i ≠ 0) : takenB ss i = false := by
  rw [takenB, decide_eq_false hi, Bool.or_false, namedIn, List.any_eq_false]
  intro j hj
  cases hu : (entAt ss (j : Int)).used with
  | false => simp
  | true =>
    have := h j (those_mem.2 ⟨List.mem_range.1 hj, hu⟩)
    simp [this]
theorem taken_yes {ss : List (List Int)} {i : Int} {k : Nat} (h : k ∈ those (usedB ss) 24) (ht : (entAt ss (k : Int)).target = i) : takenB ss i = true := by
  have : namedIn ss i 24 = true := by
    rw [namedIn, List.any_eq_true]
    obtain ⟨h1, h2⟩ := those_mem.1 h
    exact ⟨k, List.mem_range.2 h1, by rw [show (entAt ss (k : Int)).used = true from h2, ht]; simp⟩
  rw [takenB, this]; rfl
set_option maxRecDepth 100000 in
set_option maxHeartbeats 2000000 in
theorem taken_any (w : World) (d : Value) (ss : List (List Int)) (i : Int) (h : Dk w d ss) (hi : wf64 i) : Calls Tryz.prog 11 #[d, .int .i64 i] w fun e w' => e = .returned (.bool (takenB ss i)) ∧ Below w.heap.size w w' := by
  by_cases hz : i = 0
  · subst hz
    have HT : Hid (takenB ss 0 = true) := Lib.hid (by rw [takenB]; simp)
    clear h hi
    have B1 := (Go.Boxed.new (w.alloc (.cells #[.int .i64 0] 3)) 4 (.bool false)).set (.bool true)
    rw [World.size_alloc] at B1
    have c1 := B1.cell
    clear B1
    go_enter Tryz.func11, Tryz.ntmps11
    go_wp2_with fail
    refine bodyPost_ret (v := .bool true) (by simp [results, Tryz.f11, go_sem, c1]) rfl ⟨by rw [HT.out], below_alloc (below_alloc (Below.refl _ _) _) _⟩
  · have HD := Lib.hid h
    obtain ⟨p, rfl⟩ := dk_ptr h
    have HZ := Lib.hid hz
    have hzb : (i == 0) = false := beq_eq_false_iff_ne.2 hz
    clear h hi hz
    have hB0 := below_alloc (below_alloc (below_alloc (Below.refl w.heap.size w) (.cells #[.int .i64 i] 3)) (.cells #[.bool false] 4)) (.cells #[.pointer p] 25)
    have b0 := ((Go.Boxed.new w 3 (.int .i64 i)).alloc (.cells #[.bool false] 4)).alloc (.cells #[.pointer p] 25)
    have b1 := (Go.Boxed.new (w.alloc (.cells #[.int .i64 i] 3)) 4 (.bool false)).alloc (.cells #[.pointer p] 25)
    have b2 := Go.Boxed.new ((w.alloc (.cells #[.int .i64 i] 3)).alloc (.cells #[.bool false] 4)) 25 (.pointer p)
    simp only [World.size_alloc] at b1 b2
    have hsz : (((w.alloc (.cells #[.int .i64 i] 3)).alloc (.cells #[.bool false] 4)).alloc (.cells #[.pointer p] 25)).heap.size = w.heap.size + 3 := by simp [World.size_alloc]
    obtain ⟨W0, hW0⟩ : ∃ W0, ((w.alloc (.cells #[.int .i64 i] 3)).alloc (.cells #[.bool false] 4)).alloc (.cells #[.pointer p] 25) = W0 := ⟨_, rfl⟩
    rw [hW0] at hB0 b0 b1 b2 hsz
    have HB0 := Lib.hid hB0
    have B0 := Lib.hid b0
    have B1 := Lib.hid b1
    have B2 := Lib.hid b2
    have HSZ := Lib.hid hsz
    clear hB0 b0 b1 b2 hsz
    refine (callsIn_wide (n := 10)).1 (callsIn_of_wp_marks Tryz.func11 rfl trivial ?_ rfl)
    simp only [Tryz.ntmps11, List.size_toArray, List.length_cons, List.length_nil, Nat.reduceAdd, Nat.reduceSub, Array.replicate_succ, Array.replicate_zero, List.push_toArray, List.append_toArray, List.nil_append, List.cons_append]
    gi_wp2_with (refine ⟨trivial, ?_⟩; gi_at_call 28; refine (callsIn_wide.2 (cused_any _ _)).mono ?_; rintro e w2 ⟨rfl, rfl⟩)
    try rw [hW0]
    clear hW0
    refine range_over (gf := 47) (lb := #[.pointer (some ⟨w.heap.size + 1 + 1, 0, none⟩)]) rfl (enters_of Tryz.func47 (by kernel_rfl) rfl)
      (used_seq w (.pointer p) ss HD.out (w.heap.size + 1 + 1) (fun b _ => b = W0.heap.size + 1 ∨ False) W0 HB0.out B2.out (fun b o hb => by have := HSZ.out; rcases hb with hb | hb; (omega); (exact hb.elim)) (fun v hb => by have := HSZ.out; rcases hb with hb | hb; (omega); (exact hb.elim))) (fun b o h => h.elim) soft_cells (fun _ => rfl)
      (fun pre W => noneOf ss i pre ∧ Go.Boxed W w.heap.size 3 (.int .i64 i) ∧ Go.Boxed W (w.heap.size + 1) 4 (.bool false) ∧ Below w.heap.size w W)
      (fun c pre W => c = .ret ∧ takenB ss i = true ∧ Go.Boxed W (w.heap.size + 1) 4 (.bool true) ∧ Below w.heap.size w W)
      (fun s A B h hc => ⟨h.1, hc.boxed h.2.1, hc.boxed h.2.2.1, h.2.2.2.trans (hc.below (by have := HSZ.out; omega) h.2.2.2.size)⟩)
      (fun c s A B h hc => ⟨h.1, h.2.1, hc.boxed h.2.2.1, h.2.2.2.trans (hc.below (by have := HSZ.out; omega) h.2.2.2.size)⟩)
      ⟨fun k hk => (by cases hk), B0.out, B1.out, HB0.out⟩
      (fun pre k a' W => (noneOf ss i pre ∧ Go.Boxed W w.heap.size 3 (.int .i64 i) ∧ Go.Boxed W (w.heap.size + 1) 4 (.bool false) ∧ Below w.heap.size w W) ∧ ∃ Bx, AtE W Bx (entAt ss (k : Int)) ∧ a' = { tmps := #[.pointer p, .int .i64 i, undef, .pointer (some ⟨w.heap.size, 0, none⟩), .pointer (some ⟨w.heap.size + 1, 0, none⟩), undef, .pointer (some ⟨Bx, 0, none⟩), .int .i64 i, .bool false, .pointer p, .func (.func 47) #[] #[.pointer (some ⟨w.heap.size + 1 + 1, 0, none⟩)], .int .i64 (k : Int), aggE (entAt ss (k : Int)), undef, undef, undef, undef], defers := [] })
      (fun s k a' A B h hc => by
        obtain ⟨h1, Bx, h2, h3⟩ := h
        exact ⟨⟨h1.1, hc.boxed h1.2.1, hc.boxed h1.2.2.1, h1.2.2.2.trans (hc.below (by have := HSZ.out; omega) h1.2.2.2.size)⟩, Bx, hc.block _ _ h2 (Or.inr rfl), h3⟩)
      ?assign ?body ?done ?stop
    case assign =>
      rintro l pre k W hI hsz _
      generalize entAt ss (k : Int) = x
      obtain ⟨u, pa, nm, tg⟩ := x
      have HI := Lib.hid hI
      clear hI
      gi_wp2
      have hb := below_alloc (Below.refl W.heap.size W) (.cells #[.bool u, .int .i64 pa, .string nm, .int .i64 tg] 34)
      exact ⟨⟨⟨HI.out.1, HI.out.2.1.alloc _, HI.out.2.2.1.alloc _, below_trans HI.out.2.2.2 hb⟩, W.heap.size, atE_new W ⟨u, pa, nm, tg⟩, rfl⟩, Turn.of_below hb⟩
    case body =>
      rintro l pre k a' W ⟨hI, Bx, hX, rfl⟩ hsz hsp
      have HI := Lib.hid hI
      have HSP := Lib.hid hsp
      have b0 := hI.2.1.cell
      have b1 := hI.2.2.1.cell
      have f1 := hI.2.2.1.frozen
      have x3 := hX.cell3
      obtain ⟨g, hg⟩ : ∃ g, (entAt ss (k : Int)).target = g := ⟨_, rfl⟩
      have HG := Lib.hid hg
      rw [hg] at x3
      generalize aggE (entAt ss (k : Int)) = ax
      clear hI hsp hg hX
      by_cases ht : g = i
      · have hgb : (g == i) = true := by rw [ht]; simp
        have HTK : Hid (takenB ss i = true) := Lib.hid (taken_yes (HSP.out.subset (List.mem_append_right _ (List.mem_singleton.2 rfl))) (HG.out.trans ht))
        subst ht
        clear hgb
        gi_wp2
        exact ⟨⟨rfl, HTK.out, HI.out.2.2.1.set _, HI.out.2.2.2.setCell (p := ⟨w.heap.size + 1, 0, none⟩) (Nat.le_succ _) _⟩, (Turn.of_touch ((dsk.Touch.refl _ W).setCell (S := fun b => b < W0.heap.size) ⟨w.heap.size + 1, 0, none⟩ (by show w.heap.size + 1 < W0.heap.size; have := HSZ.out; omega) _)).mono fun _ _ h => Or.inl h⟩
      · have hgb : (g == i) = false := beq_eq_false_iff_ne.2 ht
        have HNE := Lib.hid ht
        clear ht
        gi_wp2
        refine ⟨⟨fun j hj => ?_, HI.out.2⟩, Turn.refl _ W⟩
        rcases List.mem_append.1 hj with hj | hj
        · exact HI.out.1 j hj
        · rw [List.mem_singleton.1 hj, HG.out]; exact HNE.out
    case done =>
      rintro D ys W hD rfl hI hK
      have HI := Lib.hid hI
      have b1 := hI.2.2.1.cell
      have f1 := hI.2.2.1.frozen
      clear hI
      gi_wp2
      have hK' := (KeepsOthers.setCell W ⟨w.heap.size + 1, 0, none⟩ (.bool false)).same D _ hK rfl
      refine ⟨by simp, .inl ⟨_, _, rfl, run_takeDeferred hK', ?_⟩⟩
      have hb := HI.out.2.2.2.setCell (p := ⟨w.heap.size + 1, 0, none⟩) (Nat.le_succ _) (.bool false)
      have hq := cell_kept (HI.out.2.2.1.set (.bool false)).cell (grownBy_putObj' _ D (.deferred none)) (fun r e => by cases e; exact ⟨_, hK', rfl⟩)
      refine ⟨.bool false, by simp [results, Tryz.f11, go_sem, hq], by rw [taken_no HI.out.1 HZ.out], hb.grown (grownBy_putObj' _ D (.deferred none)) hb.size (fun k e => by cases e; have := HSZ.out; omega)⟩
    case stop =>
      rintro D c pre W hD hp ⟨rfl, ht, hx, hb⟩ hK
      have HB := Lib.hid hb
      have HX := Lib.hid hx
      have HT := Lib.hid ht
      clear hb hx ht
      gi_wp2
      refine ⟨by simp, .inl ⟨_, _, rfl, run_takeDeferred hK, ?_⟩⟩
      have hq := cell_kept HX.out.cell (grownBy_putObj' _ D (.deferred none)) (fun r e => by cases e; exact ⟨_, hK, rfl⟩)
      refine ⟨.bool true, by simp [results, Tryz.f11, go_sem, hq], by rw [HT.out], HB.out.grown (grownBy_putObj' _ D (.deferred none)) HB.out.size (fun k e => by cases e; have := HSZ.out; omega)⟩
end Go.Proofs.YtofnciffdhjacaaGreatDoor.lk
/- What the code's within gives: an iterator over the entries by which names are in a folder. -/
namespace Go.Proofs.YtofnciffdhjacaaGreatDoor.lk
set_option maxRecDepth 100000
open Go.ChangeShapes Go.WideShapes Go.ChangeAt Go.RowKit
open Go.Proofs.YtofnciffdhjacaaGreatDoor.rows
open Go.Proofs.YtofnciffdhjacaaGreatDoor.sec
open Go.Proofs.YtofnciffdhjacaaGreatDoor.dsk (wf64)
open Go.Proofs.YtofnciffdhjacaaGreatDoor.ly
open Go.Proofs.YtofnciffdhjacaaGreatDoor.rng
set_option linter.unusedVariables false
set_option linter.unusedSimpArgs false
attribute [local go_sem] Oper.semAt_some

/-- is a name in folder i by entry k? -/
def inDir (ss : List (List Int)) (i : Int) (k : Nat) : Bool := standB ss k && decide ((entAt ss (k : Int)).parent = i)
theorem those_sub {p q : Nat → Bool} (h : ∀ k, q k = true → p k = true) (m : Nat) : (those p m).filter q = those q m := by
  rw [those, those, List.filter_filter]
  congr 1
  funext k
  cases hq : q k with
  | true => rw [h k hq]; rfl
  | false => rfl
theorem inDir_used {ss : List (List Int)} {i : Int} {k : Nat} (h : inDir ss i k = true) : usedB ss k = true := by
  rw [inDir, standB, Bool.and_eq_true, Bool.and_eq_true] at h
  exact h.1.1
theorem dirs (ss : List (List Int)) (i : Int) : (those (usedB ss) 24).filter (inDir ss i) = those (inDir ss i) 24 := those_sub (fun k h => inDir_used h) 24
theorem cwithin_any (p : Option Addr) (i : Int) (w : World) : Calls Tryz.prog 33 #[.pointer p, .int .i64 i] w fun e w' => e = .returned (.func (.func 54) #[] #[.pointer (some ⟨w.heap.size, 0, none⟩), .pointer (some ⟨w.heap.size + 1, 0, none⟩)]) ∧ w' = (w.alloc (.cells #[.pointer p] 25)).alloc (.cells #[.int .i64 i] 3) := by
  go_enter Tryz.func33, Tryz.ntmps33
  go_wp2
  go_ret
  exact ⟨rfl, rfl⟩
set_option maxRecDepth 100000 in
set_option maxHeartbeats 4000000 in
theorem within_seq (w0 : World) (p : Option Addr) (ss : List (List Int)) (hd : Dk w0 (.pointer p) ss) (i : Int) (bd bn : Nat) (m : Nat → Obj → Prop) (w : World) (hb : Below w0.heap.size w0 w) (hbd : Go.Boxed w bd 25 (.pointer p)) (hbn : Go.Boxed w bn 3 (.int .i64 i)) (hZ : ∀ b o, m b o → w0.heap.size ≤ b) (hZd : ∀ o, ¬ m bd o) (hZn : ∀ o, ¬ m bn o) :
    Seq Tryz.prog 54 #[.pointer (some ⟨bd, 0, none⟩), .pointer (some ⟨bn, 0, none⟩)] (fun k : Nat => #[.int .i64 (k : Int), aggE (entAt ss (k : Int))]) softE m (fun ys => ys = those (inDir ss i) 24) (fun pre => pre <+: those (inDir ss i) 24) w := by
  intro l J Jx W hW hZW hJ hJx hY h0
  have HJ := Lib.hid hJ
  have HJX := Lib.hid hJx
  have HY := Lib.hid hY
  have HZ := Lib.hid hZ
  have HZD := Lib.hid hZd
  have HZN := Lib.hid hZn
  have HZW := Lib.hid hZW
  have HD := Lib.hid hd
  have hB0 : Below w0.heap.size w0 W := hb.trans (hW.mono hb.size)
  have HS0 := Lib.hid hB0.size
  have hX0 : Go.Boxed W bd 25 (.pointer p) := (hW.block _ hbd.lt).trans hbd
  have hN0 : Go.Boxed W bn 3 (.int .i64 i) := (hW.block _ hbn.lt).trans hbn
  have HI := Lib.hid fun (k : Nat) w' (h : Below w0.heap.size w0 w') => cino_any w' (.pointer p) ss (entAt ss (k : Int)).target (hd.later h) (by have := ent_fine hd.secs.1 (k : Int); exact wf_byte (by omega))
  have H4 := Lib.hid fun (k : Nat) => inoAt_four hd.secs.1 (entAt ss (k : Int)).target
  have hb1 := below_alloc (below_alloc (Below.refl W.heap.size W) (.cells #[.func (.yield l) #[] #[]] 92)) (.cells #[.pointer p] 25)
  have hy1 := (Go.Boxed.new W 92 (.func (.yield l) #[] #[])).alloc (.cells #[.pointer p] 25)
  have hd1 := Go.Boxed.new (W.alloc (.cells #[.func (.yield l) #[] #[]] 92)) 25 (.pointer p)
  rw [World.size_alloc] at hd1
  have hsz : ((W.alloc (.cells #[.func (.yield l) #[] #[]] 92)).alloc (.cells #[.pointer p] 25)).heap.size = W.heap.size + 2 := by simp [World.size_alloc]
  have cd : (W.alloc (.cells #[.func (.yield l) #[] #[]] 92)).cell? ⟨bd, 0, none⟩ = some (.pointer p) := (hX0.alloc _).cell
  obtain ⟨W2, hW2⟩ : ∃ W2, (W.alloc (.cells #[.func (.yield l) #[] #[]] 92)).alloc (.cells #[.pointer p] 25) = W2 := ⟨_, rfl⟩
  rw [hW2] at hb1 hy1 hd1 hsz
  have HB2 : Hid (Below w0.heap.size w0 W2) := Lib.hid (hB0.trans (hb1.mono hB0.size))
  have HX2 : Hid (Go.Boxed W2 bd 25 (.pointer p)) := Lib.hid ((Calm.of_below (B := 0) hb1).boxed hX0)
  have HN2 : Hid (Go.Boxed W2 bn 3 (.int .i64 i)) := Lib.hid ((Calm.of_below (B := 0) hb1).boxed hN0)
  have HY2 := Lib.hid hy1
  have HD2 := Lib.hid hd1
  have HSZ := Lib.hid hsz
  have HJ2 : Hid (J [] W2) := Lib.hid (hJ _ _ _ h0 (Calm.of_below hb1))
  clear hJ hY hZ hZd hZn hb hW hbd hbn h0 hd hJx hZW hB0 hX0 hN0 hb1 hy1 hd1 hsz
  refine (callsIn_wide (n := 10)).1 (callsIn_of_wp_marks Tryz.func54 rfl trivial ?_ rfl)
  simp only [Tryz.ntmps54, List.size_toArray, List.length_cons, List.length_nil, Nat.reduceAdd, Nat.reduceSub, Array.replicate_succ, Array.replicate_zero, List.push_toArray, List.append_toArray, List.nil_append, List.cons_append]
  gi_wp2_with (refine ⟨trivial, ?_⟩; gi_at_call 28; refine (callsIn_wide.2 (cused_any _ _)).mono ?_; rintro e w2 ⟨rfl, rfl⟩)
  try rw [hW2]
  clear hW2 cd
  refine range_over (gf := 47) (lb := #[.pointer (some ⟨W.heap.size + 1, 0, none⟩)]) rfl (enters_of Tryz.func47 (by kernel_rfl) rfl)
    (used_seq w0 (.pointer p) ss HD.out (W.heap.size + 1) (fun b o => b = W2.heap.size + 1 ∨ m b o) W2 HB2.out HD2.out (fun b o hb => by
      have h1 := HSZ.out
      have h2 := HS0.out
      rcases hb with hb | hb
      · omega
      · exact HZ.out b o hb) (fun v hb => by
      have h1 := HSZ.out
      rcases hb with hb | hb
      · omega
      · rcases HZW.out _ _ hb with h | h
        · omega
        · exact soft_disk h)) (fun b o h => (HZW.out b o h).imp (fun h => by have := HSZ.out; omega) id) soft_cells (fun _ => rfl)
    (fun pre V => J (pre.filter (inDir ss i)) V ∧ Go.Boxed V W.heap.size 92 (.func (.yield l) #[] #[]) ∧ Go.Boxed V bd 25 (.pointer p) ∧ Go.Boxed V bn 3 (.int .i64 i) ∧ Below w0.heap.size w0 V ∧ W.heap.size ≤ V.heap.size)
    (fun c pre V => c = .ret ∧ Jx (pre.filter (inDir ss i)) V)
    (fun s A B h hc => ⟨HJ.out _ _ _ h.1 (hc.mono (by have := HSZ.out; omega)), hc.boxed h.2.1, hc.boxed h.2.2.1, hc.boxed h.2.2.2.1, h.2.2.2.2.1.trans (hc.below (by have := HSZ.out; have := HS0.out; omega) h.2.2.2.2.1.size), Nat.le_trans h.2.2.2.2.2 hc.size⟩)
    (fun c s A B h hc => ⟨h.1, HJX.out _ _ _ h.2 (hc.mono (by have := HSZ.out; omega))⟩)
    ⟨HJ2.out, HY2.out, HX2.out, HN2.out, HB2.out, by have := HSZ.out; omega⟩
    (fun pre k a' V => (J (pre.filter (inDir ss i)) V ∧ Go.Boxed V W.heap.size 92 (.func (.yield l) #[] #[]) ∧ Go.Boxed V bd 25 (.pointer p) ∧ Go.Boxed V bn 3 (.int .i64 i) ∧ Below w0.heap.size w0 V ∧ W.heap.size ≤ V.heap.size) ∧ ∃ Bx, AtE V Bx (entAt ss (k : Int)) ∧ a' = { tmps := #[.func (.yield l) #[] #[], .pointer (some ⟨bd, 0, none⟩), .pointer (some ⟨bn, 0, none⟩), .pointer (some ⟨W.heap.size, 0, none⟩), .int .i64 (k : Int), .pointer (some ⟨Bx, 0, none⟩), undef, .pointer p, .func (.func 47) #[] #[.pointer (some ⟨W.heap.size + 1, 0, none⟩)], .int .i64 (k : Int), aggE (entAt ss (k : Int)), undef, undef, undef, undef, undef, undef, undef, undef, undef, undef, undef, undef, undef, undef, undef, undef, undef, undef, undef, undef], defers := [] })
    (fun s k a' A B h hc => by
      obtain ⟨h1, Bx, h2, h3⟩ := h
      exact ⟨⟨HJ.out _ _ _ h1.1 (hc.mono (by have := HSZ.out; omega)), hc.boxed h1.2.1, hc.boxed h1.2.2.1, hc.boxed h1.2.2.2.1, h1.2.2.2.2.1.trans (hc.below (by have := HSZ.out; have := HS0.out; omega) h1.2.2.2.2.1.size), Nat.le_trans h1.2.2.2.2.2 hc.size⟩, Bx, hc.block _ _ h2 (Or.inr rfl), h3⟩)
    ?assign ?body ?done ?stop
  case assign =>
    rintro l2 pre k V hI hsz _
    generalize entAt ss (k : Int) = x
    obtain ⟨u, pa, nm, tg⟩ := x
    have HI2 := Lib.hid hI
    clear hI
    gi_wp2
    have hb := below_alloc (Below.refl V.heap.size V) (.cells #[.bool u, .int .i64 pa, .string nm, .int .i64 tg] 34)
    exact ⟨⟨⟨HJ.out _ _ _ HI2.out.1 (Calm.of_below hb), HI2.out.2.1.alloc _, HI2.out.2.2.1.alloc _, HI2.out.2.2.2.1.alloc _, HI2.out.2.2.2.2.1.trans (hb.mono HI2.out.2.2.2.2.1.size), Nat.le_trans HI2.out.2.2.2.2.2 hb.size⟩, V.heap.size, atE_new V ⟨u, pa, nm, tg⟩, rfl⟩, Turn.of_below hb⟩
  case body =>
    rintro l2 pre k a' V ⟨hI, Bx, hX, rfl⟩ hsz hsp
    have HIk := Lib.hid (HI.out k)
    have H4k := Lib.hid (H4.out k)
    have HYk := Lib.hid fun V' hj hs hp => HY.out (pre.filter (inDir ss i)) k V' hj hs hp
    have HI2 := Lib.hid hI
    have HIL := Lib.hid fun V' (hb : Below V.heap.size V V') => (show J (pre.filter (inDir ss i)) V' ∧ Go.Boxed V' W.heap.size 92 (.func (.yield l) #[] #[]) ∧ Go.Boxed V' bd 25 (.pointer p) ∧ Go.Boxed V' bn 3 (.int .i64 i) ∧ Below w0.heap.size w0 V' ∧ W.heap.size ≤ V'.heap.size from ⟨HJ.out _ _ _ hI.1 (Calm.of_below hb), (Calm.of_below (B := 0) hb).boxed hI.2.1, (Calm.of_below (B := 0) hb).boxed hI.2.2.1, (Calm.of_below (B := 0) hb).boxed hI.2.2.2.1, hI.2.2.2.2.1.trans (hb.mono hI.2.2.2.2.1.size), Nat.le_trans hI.2.2.2.2.2 hb.size⟩)
    have hpk : inDir ss i k = true → (pre.filter (inDir ss i)) ++ [k] <+: those (inDir ss i) 24 := fun hk => by
      have h := hsp.filter (inDir ss i)
      rw [dirs, List.filter_append] at h
      simpa [hk] using h
    have HPK := Lib.hid hpk
    have HFY : Hid (inDir ss i k = true → (pre ++ [k]).filter (inDir ss i) = pre.filter (inDir ss i) ++ [k]) := Lib.hid fun hk => by rw [List.filter_append]; simp [hk]
    have HFN : Hid (inDir ss i k = false → (pre ++ [k]).filter (inDir ss i) = pre.filter (inDir ss i)) := Lib.hid fun hk => by rw [List.filter_append]; simp [hk]
    have huk : usedB ss k = true := by
      have := hsp.subset (List.mem_append_right _ (List.mem_singleton.2 rfl))
      exact (those_mem.1 this).2
    have hin : inDir ss i k = (!decide ((inoAt ss (entAt ss (k : Int)).target).kind = 0) && decide ((entAt ss (k : Int)).parent = i)) := by
      rw [inDir, standB, show (entAt ss (k : Int)).used = true from huk, Bool.true_and]
    have x1 := hX.cell1
    have x3 := hX.cell3
    have bn1 := hI.2.2.2.1.cell
    have bd1 := hI.2.2.1.cell
    have by1 := hI.2.1.cell
    have x0 := hX.cell0
    have x2 := hX.cell2
    have HX := Lib.hid hX
    have hbx : Bx < V.heap.size := (Array.getElem?_eq_some_iff.1 hX).1
    clear hI hsp huk hpk
    generalize hxe : entAt ss (k : Int) = x at *
    generalize hye : inoAt ss x.target = y at *
    have hf : ∀ v, (Instr.field 30 (aggI y) 0).run Tryz.prog v = .ok (.int .i64 y.kind) v := fun v => fieldI0 y H4k.out v
    have HXE := Lib.hid hxe
    have hax0 : ∀ u, x.used = u → aggE x = .agg #[.bool u, .int .i64 x.parent, .string x.name, .int .i64 x.target] := fun u e => by rw [← e]
    have hax := hax0 _ rfl
    generalize hae : aggE x = ax at *
    obtain ⟨pa, hpa⟩ : ∃ pa, x.parent = pa := ⟨_, rfl⟩
    rw [hpa] at x1 hin hax
    obtain ⟨tg, htg⟩ : ∃ tg, x.target = tg := ⟨_, rfl⟩
    rw [htg] at x3 hax HIk
    have HAX := Lib.hid hax
    clear hxe hye hax0 hae hax hpa htg
    by_cases hp : pa = i
    · have hpb : (pa == i) = true := by rw [hp]; simp
      by_cases hk : y.kind = 0
      · have HNO : Hid (inDir ss i k = false) := Lib.hid (by rw [hin, decide_eq_true hk]; rfl)
        have hkb : (y.kind == 0) = true := by rw [hk]; rfl
        have hkn : (y.kind != 0) = false := by rw [bne, hkb]; rfl
        clear hin hk hp
        gi_wp2_with (refine ⟨trivial, ?_⟩; gi_at_call 7; refine (call_in (HIk.out _ HI2.out.2.2.2.2.1)).mono ?_; rintro e w3 ⟨rfl, hb3⟩; have HB3 := Lib.hid hb3; clear hb3)
        refine ⟨fun _ h => (by cases h), ?_⟩
        gi_wp2
        have h := HIL.out _ HB3.out
        exact ⟨⟨by rw [HFN.out HNO.out]; exact h.1, h.2⟩, Turn.of_below HB3.out⟩
      · have HYES : Hid (inDir ss i k = true) := Lib.hid (by rw [hin, decide_eq_false hk, decide_eq_true hp]; rfl)
        have hkb : (y.kind == 0) = false := beq_eq_false_iff_ne.2 hk
        have hkn : (y.kind != 0) = true := by rw [bne, hkb]; rfl
        have HYw := Lib.hid fun w3 (hb3 : Below V.heap.size V w3) => yield_any 8 (HYk.out w3 (HIL.out w3 hb3).1 (HIL.out w3 hb3).2.2.2.2.2 (HPK.out HYES.out))
        rw [HAX.out] at HYw
        generalize x.used = xu at *
        generalize x.name = xn at *
        clear hin hk hp
        gi_wp2_with (refine ⟨trivial, ?_⟩; gi_at_call 7; refine (call_in (HIk.out _ HI2.out.2.2.2.2.1)).mono ?_; rintro e w3 ⟨rfl, hb3⟩; have HB3 := Lib.hid hb3; obtain ⟨fn, tmps, assign, body, hy, hR⟩ := HYw.out w3 hb3; have e0 := (hb3.cell (p := ⟨Bx, 0, none⟩) hbx).trans x0; have e1 := (hb3.cell (p := ⟨Bx, 1, none⟩) hbx).trans x1; have e2 := (hb3.cell (p := ⟨Bx, 2, none⟩) hbx).trans x2; have e3 := (hb3.cell (p := ⟨Bx, 3, none⟩) hbx).trans x3; have ey := (HIL.out w3 hb3).2.1.cell; clear hb3)
        refine RoundIn.mono (F := Fence.wide.inRound l2) hR ?_
        rintro e W4 (⟨rfl, hJ4, hT4⟩ | ⟨rfl, hJx4, hT4⟩)
        · have HJ4 := Lib.hid hJ4
          have HT4 := Lib.hid hT4
          clear hy hR hJ4 hT4
          gi_wp2
          have h := HIL.out _ HB3.out
          have h5 := HSZ.out
          exact ⟨⟨by rw [HFY.out HYES.out]; exact HJ4.out, HT4.out.keep _ _ h.2.1 (fun hz => by
              rcases HZW.out _ _ hz with hh | hh
              · omega
              · exact soft_func hh), HT4.out.keep _ _ h.2.2.1 (HZD.out _), HT4.out.keep _ _ h.2.2.2.1 (HZN.out _), h.2.2.2.2.1.trans (HT4.out.below h.2.2.2.2.1.size fun j o hz => HZ.out j o hz), Nat.le_trans h.2.2.2.2.2 HT4.out.size⟩, (Turn.of_below HB3.out).trans HT4.out⟩
        · have HJX4 := Lib.hid hJx4
          have HT4 := Lib.hid hT4
          clear hy hR hJx4 hT4
          gi_wp2
          exact ⟨⟨rfl, by rw [HFY.out HYES.out]; exact HJX4.out⟩, (Turn.of_below HB3.out).trans (HT4.out.mono fun j o hz => hz.imp (fun h => by have := HSZ.out; omega) id)⟩
    · have hpb : (pa == i) = false := beq_eq_false_iff_ne.2 hp
      have HNO : Hid (inDir ss i k = false) := Lib.hid (by rw [hin, decide_eq_false hp, Bool.and_false])
      clear hin hp
      gi_wp2
      refine ⟨trivial, ?_⟩
      gi_wp2
      refine ⟨fun _ h => (by cases h), ?_⟩
      gi_wp2
      exact ⟨⟨by rw [HFN.out HNO.out]; exact HI2.out.1, HI2.out.2⟩, Turn.refl _ _⟩
  case done =>
    rintro D ys V hD rfl hI hK
    have HI2 := Lib.hid hI
    clear hI
    gi_wp2
    refine ⟨by simp, .inl ⟨_, _, rfl, run_takeDeferred hK, ?_⟩⟩
    refine ⟨_, results_none rfl _ _ _, ⟨_, rfl⟩, .inl ⟨_, rfl, ?_⟩⟩
    have h := HI2.out.1
    rw [dirs] at h
    exact HJ.out _ _ _ h (Calm.putObj _ (by have := HSZ.out; omega) hK rfl)
  case stop =>
    rintro D c pre V hD hp ⟨rfl, hx⟩ hK
    have HX := Lib.hid hx
    clear hx
    gi_wp2
    refine ⟨by simp, .inl ⟨_, _, rfl, run_takeDeferred hK, ?_⟩⟩
    refine ⟨_, results_none rfl _ _ _, ⟨_, rfl⟩, .inr ⟨_, ?_, HJX.out _ _ _ HX.out (Calm.putObj _ (by have := HSZ.out; omega) hK rfl)⟩⟩
    rw [← dirs]
    exact hp.filter _
end Go.Proofs.YtofnciffdhjacaaGreatDoor.lk
