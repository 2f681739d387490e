/- What the code's settle gives. -/
import Derived.Test.YteobhljkjgocdaaDcSetMath
namespace Go.Proofs.Yteobhljkjgocdaa.dsk
open Go.ChangeShapes Go.WideShapes Go.ChangeAt Go.RowKit
open Go.Proofs.Yteobhljkjgocdaa.rows
open Go.Proofs.Yteobhljkjgocdaa.sec
open Go.Maps
set_option linter.unusedVariables false
set_option linter.unusedSimpArgs false

/-- what settle asks of a state -/
structure Mild (st : St) : Prop where
  ss : Secs st.safe
  ws : ∀ x ∈ st.wait, Sec x.s
  wn : st.wait.length ≤ 900
  n1 : st.safe.length ≤ 65
  pos : ∀ x ∈ st.wait, 0 ≤ x.pos ∧ x.pos < (st.safe.length : Int)
theorem St.fine.mild {st : St} (h : st.fine) : Mild st.asked1 := ⟨h.few.ss, h.few.ws, h.few.wn, h.n1, h.pos⟩
theorem tmem_take_succ {ts : List (Int × Int)} {j : Nat} (h : j < ts.length) (t : Int × Int) : (t ∈ ts.take (j + 1)) ↔ (t ∈ ts.take j ∨ t = ts[j]) := by
  rw [List.take_succ_eq_append_getElem h, List.mem_append, List.mem_singleton]
theorem isKey_tag (k i : Int) : WideAt.IsKeyLit (tagL k i) := trivial
theorem wanted_more {w w' : World} {b j : Nat} {ts : List (Int × Int)} {D : DataW Unit} {k i : Int} (hj : j < ts.length) (hx : ts[j] = (k, i)) (hk : wf64 k) (hi : wf64 i) (hD : w.ownsMap Try.prog 37 unitElem b j D) (hh : ∀ k i : Int, wf64 k → wf64 i → Maps.has D (tagL k i) = decide ((k, i) ∈ ts.take j))
    (h : w'.ownsMap Try.prog 37 unitElem b (j + 1) (D.put (tagL k i) (.agg []))) : ∃ D : DataW Unit, w'.ownsMap Try.prog 37 unitElem b (j + 1) D ∧ ∀ k i : Int, wf64 k → wf64 i → Maps.has D (tagL k i) = decide ((k, i) ∈ ts.take (j + 1)) := by
  refine ⟨_, h, fun k' i' hk' hi' => ?_⟩
  have h1 := tmem_take_succ hj (k', i')
  rw [hx] at h1
  by_cases e : (k', i') = (k, i)
  · cases e
    rw [Maps.has_put_same hD.isMap (isKey_tag _ _), decide_eq_true (h1.2 (Or.inr rfl))]
  · rw [Maps.has_put_other (fun e2 => e (by have := tagL_inj hk' hi' hk hi e2; rw [this.1, this.2])), hh k' i' hk' hi']
    simp [h1, e]
/-- an array of numbers as it lies in memory -/
def ar (l : List Nat) : Array Value := (l.map fun n : Nat => Value.int .i64 (n : Int)).toArray
theorem ar_at (l : List Nat) (i : Nat) (h : i < l.length) : (ar l)[i]? = some (.int .i64 ((l.getD i 0 : Nat) : Int)) := by
  simp [ar, List.getD, h]
theorem ar_set (l : List Nat) (i n : Nat) : (ar l).setIfInBounds i (.int .i64 (n : Int)) = ar (l.set i n) := by
  simp [ar, List.map_set]
theorem zero_ar (mk : Wr → Bool) (ws : List Wr) (w : World) : (zeroValue 90).run Try.prog w = .ok (.agg (ar (setl mk ws 0))) w := by
  have h : (zeroValue 90).run Try.prog w = .ok (.agg (List.replicate 65 (Value.int .i64 0)).toArray) w := by kernel_rfl
  rw [h]
  have e : ar (setl mk ws 0) = (List.replicate 65 (Value.int .i64 0)).toArray := by rw [setl, ar, List.map_replicate]; rfl
  rw [e]
/-- what holds while the second loop runs: only what is safe has turned of the old blocks; o is safe now, l the array -/
structure L2 (w : World) (F : Nat → Prop) (z : Nat → Nat) (vs : Value) (n ga bm : Nat) (ts : List (Int × Int)) (o : List (List Int)) (l : List Nat) (wr : World) : Prop where
  touch : Touch (fun k => vs.ownBlock = some k) w wr
  own : Own wr 0 35 32 vs n (cellsOf o)
  row : wr.heap[ga]? = some (.cells (ar l) 90 (0, 0))
  want : Wanted wr bm ts
  hbm : w.heap.size ≤ bm
  hga : bm < ga
  hvs : ∀ k, vs.ownBlock = some k → Zn F z 1 k ∧ k < w.heap.size
theorem L2.lt {w : World} {F : Nat → Prop} {z : Nat → Nat} {vs : Value} {n ga bm : Nat} {ts : List (Int × Int)} {o : List (List Int)} {l : List Nat} {wr : World} (h : L2 w F z vs n ga bm ts o l wr) : ga < wr.heap.size := (Array.getElem?_eq_some_iff.1 h.row).1
theorem L2.below {w : World} {F : Nat → Prop} {z : Nat → Nat} {vs : Value} {n ga bm : Nat} {ts : List (Int × Int)} {o : List (List Int)} {l : List Nat} {wr w' : World} (h : L2 w F z vs n ga bm ts o l wr) (hb : Below wr.heap.size wr w') : L2 w F z vs n ga bm ts o l w' :=
  ⟨h.touch.trans (Touch.of_below hb), own_later h.own hb, row_later h.row hb h.lt, wanted_kept (S := fun _ => True) h.want trivial (Keeps.of_below hb), h.hbm, h.hga, h.hvs⟩
theorem L2.store {w : World} {F : Nat → Prop} {z : Nat → Nat} {gs n cs ga bm : Nat} {ts : List (Int × Int)} {o o' : List (List Int)} {l : List Nat} {wr w' : World} (h : L2 w F z (.slice (some ⟨gs, 0, none⟩) n cs) n ga bm ts o l wr) (ht : Touch (· = gs) wr w')
    (ho : Own w' 0 35 32 (.slice (some ⟨gs, 0, none⟩) n cs) n (cellsOf o')) : L2 w F z (.slice (some ⟨gs, 0, none⟩) n cs) n ga bm ts o' l w' := by
  have hgs := (h.hvs gs rfl).2
  have h1 := h.hbm
  have h2 := h.hga
  have h3 := h.lt
  exact ⟨h.touch.trans' ht (fun i hi => Or.inl (by rw [hi]; rfl)), ho, (ht.block ga h3 (by omega)).trans h.row, wanted_kept (S := (· = bm)) h.want rfl (ht.keeps fun k hk => by omega), h.hbm, h.hga, h.hvs⟩
theorem L2.mark {w : World} {F : Nat → Prop} {z : Nat → Nat} {vs : Value} {n ga bm : Nat} {ts : List (Int × Int)} {o : List (List Int)} {l : List Nat} {wr : World} (h : L2 w F z vs n ga bm ts o l wr) (kp j : Nat) : L2 w F z vs n ga bm ts o (l.set kp j) (wr.setCell ⟨ga, kp, none⟩ (.int .i64 (j : Int))) := by
  have h1 := h.hbm
  have h2 := h.hga
  have h3 := h.lt
  refine ⟨h.touch.trans' (Touch.setCell (S := (· = ga)) (Touch.refl _ _) ⟨ga, kp, none⟩ rfl _) (fun i hi => Or.inr (by omega)), own_set_other h.own (fun g m c e => by have := (h.hvs g (by rw [e]; rfl)).2; omega), ?_, wanted_kept (S := (· = bm)) h.want rfl (Keeps.set (fun k hk => by omega) _), h.hbm, h.hga, h.hvs⟩
  rw [← ar_set]
  exact setCell_heap h.row _
set_option maxHeartbeats 3200000 in
set_option maxRecDepth 100000 in
theorem csettle (w : World) (F : Nat → Prop) (z : Nat → Nat) (g : Nat) (st : St) (vs vn vl vf : Value) (gw cw : Nat) (h : CodeAt w F z g st vs (.slice (some ⟨gw, 0, none⟩) st.wait.length cw) vn vl vf) (hf : Mild st) (p : Option Addr) (q c : Nat) (ts : List (Int × Int))
    (ht : Rd w 2 (.slice p q c) q (tagsC ts)) (hti : InS (fun b => ¬ F b) (.slice p q c)) (hq : q ≤ 50) (hwt : ∀ t ∈ ts, wf64 t.1 ∧ wf64 t.2) :
    Calls Try.prog 36 #[.pointer (some ⟨g, 0, none⟩), .slice p q c] w fun e w' => e = .returned (.tuple #[]) ∧ ∃ vw', CodeAt w' F z g { st with safe := (settle st.safe st.wait ts).1, wait := (settle st.safe st.wait ts).2 } vs vw' vn vl vf ∧ Touch (fun b => F b ∧ (z b = 0 ∨ z b = 1 ∨ z b = 2)) w w' := by
  have hql : ts.length = q := Rd.count tagC ht (fun x _ => rfl) (by decide)
  have HQL := Lib.hid hql
  have HTG := Lib.hid ht
  have HTI := Lib.hid hti
  have HWT := Lib.hid hwt
  have HA := Lib.hid h
  have HFI := Lib.hid hf
  have hq1 : (q : Int) ≤ 50 := by omega
  have hmm := fun w => run_makeHint und_wanted q (by omega) w
  have hlt := h.lt
  clear hql ht hti hwt h hf
  go_enter Try.func36, Try.ntmps36
  go_wp2_with fail
  obtain ⟨W1, hW1⟩ : ∃ W1, W1 = w.alloc (.map #[] 0) := ⟨_, rfl⟩
  have HB1 : Hid (Below w.heap.size w W1) := Lib.hid (by rw [hW1]; exact below_alloc (Below.refl _ w) _)
  have hs1 : W1.heap.size = w.heap.size + 1 := by rw [hW1, size_alloc]
  have HW0 : Hid (∃ D : DataW Unit, W1.ownsMap Try.prog 37 unitElem w.heap.size 0 D ∧ ∀ k i : Int, wf64 k → wf64 i → Maps.has D (tagL k i) = decide ((k, i) ∈ ts.take 0)) := by
    rw [hW1]
    exact Lib.hid ⟨.map [], World.ownsMap_made _ _ _ _, fun _ _ _ _ => by simp [Maps.has]⟩
  rw [← hW1]
  clear hW1
  go_loopw [21] (fun iv wr => ∃ (jt : Nat), jt ≤ q ∧ iv = .int .i64 (jt : Int) ∧ Hid (Below w.heap.size w wr) ∧ w.heap.size + 1 ≤ wr.heap.size ∧ Hid (∃ D : DataW Unit, wr.ownsMap Try.prog 37 unitElem w.heap.size jt D ∧ ∀ k i : Int, wf64 k → wf64 i → Maps.has D (tagL k i) = decide ((k, i) ∈ ts.take jt))) (fun iv _ => q - (intOf iv).toNat)
  case atStart => exact ⟨0, by omega, rfl, HB1, by omega, HW0⟩
  case round =>
    clear HW0 HB1
    obtain ⟨jt, hj, rfl, HB, hsr, HO⟩ := hrel
    by_cases ha : jt < q
    · have ha1 : (jt:Int) < q := by omega
      have hjl : jt < ts.length := by rw [HQL.out]; exact ha
      obtain ⟨b1, o1, rfl, hc1, hm1, hh1, hl1, HR1⟩ := Rd.chunk tagC HTG.out (fun x _ => rfl) (by decide) ha
      have hr1 := Rd.rangeLater (HR1 jt hjl) hh1 HB.out
      have HX : Hid (ts[jt] = (ts[jt].1, ts[jt].2)) := Lib.hid rfl
      have hwx := HWT.out _ (List.getElem_mem hjl)
      obtain ⟨D, hD, hhas⟩ := HO.out
      have HH := Lib.hid hhas
      have HMORE : Hid (∀ (k i : Int) (w' : World), ts[jt] = (k, i) → wf64 k → wf64 i → w'.ownsMap Try.prog 37 unitElem w.heap.size (jt + 1) (D.put (tagL k i) (.agg [])) → (∃ D : DataW Unit, w'.ownsMap Try.prog 37 unitElem w.heap.size (jt + 1) D ∧ ∀ k i : Int, wf64 k → wf64 i → Maps.has D (tagL k i) = decide ((k, i) ∈ ts.take (jt + 1)))) := Lib.hid fun k i w' e hk hi h => wanted_more hjl e hk hi hD HH.out h
      generalize ts[jt] = x at *
      obtain ⟨x1, x2⟩ := x
      have HWX := Lib.hid hwx
      have hx1 := hr1 0 _ rfl
      have hx2 := hr1 1 _ rfl
      rw [Nat.add_zero] at hx1
      clear HR1 hl1 hr1 hwx hhas HO
      have hDa : (wr.alloc (.cells #[.int .i64 x1, .int .i64 x2] 37)).ownsMap Try.prog 37 unitElem w.heap.size jt D := by
        obtain ⟨es, clock, he, r⟩ := hD
        exact ⟨es, clock, row_alloc he _, r⟩
      go_wp2_with (at_mapUpdate; refine wpList_mapUpdate_own _ rfl _ _ _ 88 rfl 37 77 key_tag und_wanted unitElem w.heap.size jt D rfl hDa (by unfold maxLen; omega) _ _ (tagL x1 x2) rfl rfl (keyAt_tag HWX.out.1 HWX.out.2) (.agg []) [] unitElem_mk ?_; intro w3 hown3 hgrow3)
      have hB3 : Below w.heap.size w w3 := by
        have h1 : Below w.heap.size w (wr.alloc (.cells #[.int .i64 x1, .int .i64 x2] 37)) := below_alloc HB.out _
        exact h1.trans ⟨hgrow3.os, hgrow3.tape, hgrow3.output, hgrow3.size, fun k hk => hgrow3.block k (by have := h1.size; omega) (fun e => by injection e; omega)⟩
      have hs3 := hgrow3.size
      rw [size_alloc] at hs3
      go_roundw
      case rel => exact ⟨jt + 1, by omega, by go_num, Lib.hid hB3, by omega, Lib.hid (HMORE.out x1 x2 w3 HX.out HWX.out.1 HWX.out.2 hown3)⟩
      case measure => simp [intOf]; omega
    · obtain rfl : jt = q := by omega
      have HW1 : Hid (Wanted wr w.heap.size ts) := Lib.hid (by
        obtain ⟨D, hD, hh⟩ := HO.out
        rw [List.take_of_length_le (by rw [HQL.out]; omega)] at hh
        exact ⟨jt, D, by rw [HQL.out]; exact Nat.le_refl _, hD, hh⟩)
      clear HO
      have hrg := row_later HA.out.row HB.out hlt
      have c2 : wr.cell? ⟨g, 2, none⟩ = some (.slice (some ⟨gw, 0, none⟩) st.wait.length cw) := cell_row hrg 2 _ rfl
      have HRG := Lib.hid hrg
      have HAR := Lib.hid (codeAt_kept HA.out (Keeps.of_below HB.out))
      have HCL := Lib.hid (clast wr (some ⟨gw, 0, none⟩) st.wait.length cw w.heap.size st.wait ts HAR.out.wait.rd HFI.out.ws (fun x hx => HA.out.eps x hx) (by have := HFI.out.wn; omega) HW1.out)
      clear hrg
      go_wp2_with (go_at_call 47; refine HCL.out.mono ?_; rintro e w2 ⟨rfl, hb2⟩)
      obtain ⟨mk, hmk⟩ : ∃ mk, mk = madeC ts (lastE ts st.wait) := ⟨_, rfl⟩
      have HMK := Lib.hid hmk
      have hz := zero_ar mk st.wait
      obtain ⟨L, hL⟩ : ∃ L, lastE ts st.wait = L := ⟨_, rfl⟩
      have HL := Lib.hid hL
      rw [hL]
      obtain ⟨ps, cs, hvs⟩ := HA.out.safe.slice
      subst hvs
      have hn1 := HFI.out.n1
      have hm1 := HFI.out.wn
      have HPOS := Lib.hid HFI.out.pos
      have HWS := Lib.hid HFI.out.ws
      have HSS := Lib.hid HFI.out.ss
      have hb20 := HB.out.trans (hb2.mono HB.out.size)
      have hs2 := hb2.size
      have c2b : w2.cell? ⟨g, 2, none⟩ = some (.slice (some ⟨gw, 0, none⟩) st.wait.length cw) := cell_row (row_later HRG.out hb2 (by omega)) 2 _ rfl
      have HW2 := Lib.hid (wanted_kept (S := fun _ => True) HW1.out trivial (Keeps.of_below hb2))
      clear hmk hL HCL c2
      obtain ⟨W2, hW2⟩ : ∃ W2, W2 = w2.alloc (.cells (ar (setl mk st.wait 0)) 90) := ⟨_, rfl⟩
      have c2c : W2.cell? ⟨g, 2, none⟩ = some (.slice (some ⟨gw, 0, none⟩) st.wait.length cw) := by
        rw [hW2]; exact cell_row (row_alloc (row_later HRG.out hb2 (by omega)) _) 2 _ rfl
      have hsz2 : W2.heap.size = w2.heap.size + 1 := by rw [hW2, size_alloc]
      have HBW : Hid (Below w.heap.size w W2) := Lib.hid (by rw [hW2]; exact below_alloc hb20 _)
      have HAW := Lib.hid (codeAt_kept HA.out (Keeps.of_below HBW.out))
      have hc2d : (w2.alloc (.cells (ar (setl mk st.wait 0)) 90)).cell? ⟨g, 2, none⟩ = some (.slice (some ⟨gw, 0, none⟩) st.wait.length cw) := by rw [← hW2]; exact c2c
      have hsw := HBW.out.size
      have HL20 : Hid (L2 w F z (.slice ps st.safe.length cs) st.safe.length w2.heap.size w.heap.size ts st.safe (setl mk st.wait 0) W2) := Lib.hid ⟨Touch.of_below HBW.out, HAW.out.safe, by rw [hW2]; exact heap_alloc_new _ _, wanted_kept (S := fun _ => True) HW2.out trivial (Keeps.of_below (show Below w2.heap.size w2 W2 by rw [hW2]; exact below_alloc (Below.refl _ _) _)), by omega, by omega, fun k hk => ⟨(HA.out.safeS k hk), (own_blk HA.out.safe hk).2⟩⟩
      have HBG : Hid (∀ b, F b → z b ≠ 1 → b < w.heap.size → ∀ w', Touch (fun k => (Value.slice ps st.safe.length cs).ownBlock = some k) w w' → w'.heap[b]? = w.heap[b]?) := Lib.hid (fun b hF hz1 hlt w' ht => ht.block b hlt fun e => hz1 (HA.out.safeS b e).2)
      clear hb20 hb2 HAR HW1 HB HW2 c2c HBW HAW HWT HTG HTI hmm
      rw [hz]
      simp only [Result.andThen_ok]
      rw [← hW2]
      rw [← hW2] at hc2d
      clear hz hW2
      go_wp2_with fail
      clear hc2d c2b
      generalize hms : st.wait.length = m at *
      generalize hns : st.safe.length = n at *
      have HMS := Lib.hid hms
      have HNS := Lib.hid hns
      have hmi : (m : Int) ≤ 900 := by omega
      have HWC := Lib.hid fun x hx => Wr.c_len (HWS.out x hx)
      have HGW : Hid (Zn F z 2 gw ∧ gw < w.heap.size ∧ m ≤ cw ∧ cw ≤ maxLen) := Lib.hid (by
        have h1 := HA.out.wait.2
        rcases h1 with ⟨h2, _⟩ | ⟨g', cap, cur, h2, _, h4, h5, h6, _⟩
        · cases h2
        · cases h2
          exact ⟨HA.out.waitS _ rfl, (Array.getElem?_eq_some_iff.1 h4).1, h5, h6⟩)
      have HWRD : Hid (Rd w 36 (.slice (some ⟨gw, 0, none⟩) m cw) m (wrsC st.wait)) := Lib.hid (by have := HA.out.wait.rd; rwa [HMS.out] at this)
      clear hms hns
      go_loopw [40] (fun iv wr => ∃ (j : Nat), j ≤ m ∧ iv = .int .i64 (j : Int) ∧ Hid (L2 w F z (.slice ps n cs) n w2.heap.size w.heap.size ts (outOf mk (st.wait.take j) st.safe) (setl mk st.wait j) wr)) (fun iv _ => m - (intOf iv).toNat)
      case atStart => exact ⟨0, by omega, rfl, HL20⟩
      case round =>
        clear HL20
        obtain ⟨j, hj, rfl, HL2⟩ := hrel
        by_cases ha : j < m
        · have ha1 : (j:Int) < m := by omega
          have hjl : j < st.wait.length := by rw [HMS.out]; exact ha
          have hmem := List.getElem_mem hjl
          have hpx := HPOS.out _ hmem
          have HSX := Lib.hid (HWS.out _ hmem)
          have HEX := Lib.hid (HA.out.eps _ hmem)
          have HOS := Lib.hid (outOf_snoc mk st.wait st.safe j hjl)
          have HLS := Lib.hid (setl_snoc mk st.wait j hjl)
          have HMX : Hid (mk st.wait[j] = (hasT ts st.wait[j] || decide (st.wait[j].ep < L))) := Lib.hid (by rw [HMK.out, HL.out]; rfl)
          have hgw : wr.heap[gw]? = w.heap[gw]? := HBG.out gw HGW.out.1.1 (by have := HGW.out.1.2; omega) HGW.out.2.1 _ HL2.out.touch
          have hinw : InS (· = gw) (.slice (some ⟨gw, 0, none⟩) m cw) := fun a n c e _ => by cases e; rfl
          have hwr : wr.rangeAt gw (j * 36) st.wait[j].c := by
            obtain ⟨b1, o1, e1, _, _, _, _, h6⟩ := Rd.chunk Wr.c (Rd.kept (S := (· = gw)) HWRD.out hinw ⟨HL2.out.touch.size, fun k _ hk => by rw [hk]; exact hgw⟩) HWC.out (by decide) ha
            have e2 : gw = b1 ∧ 0 = o1 := by simpa using e1
            have := h6 j hjl
            rw [← e2.1, ← e2.2, Nat.zero_add] at this
            exact this
          generalize st.wait[j] = x at *
          have hcl := x.c_len HSX.out
          obtain ⟨kp, hkp⟩ : ∃ kp : Nat, x.pos = (kp : Int) := ⟨x.pos.toNat, by omega⟩
          have hkn : kp < n := by have := hpx.2; omega
          obtain ⟨gs, hps⟩ : ∃ gs, ps = some ⟨gs, 0, none⟩ := own_some HL2.out.own (by omega)
          subst hps
          have HXC := Lib.hid (show x.c = .int .i64 (kp : Int) :: (u8s x.s ++ [.int .i64 x.kind, .int .i64 x.id, .int .i64 x.ep]) by rw [Wr.c, hkp])
          have HKP := Lib.hid hkp
          have hmap : cw ≤ maxLen := HGW.out.2.2.2
          have hmcw : m ≤ cw := HGW.out.2.2.1
          have hgl : gw < wr.heap.size := by have := HGW.out.2.1; have := HL2.out.touch.size; omega
          have HWR := Lib.hid hwr
          have HLK : Hid (∀ w', Below wr.heap.size wr w' → (Instr.lookup 88 (.map (some w.heap.size)) (.agg #[.int .i64 x.kind, .int .i64 x.id]) true).run Try.prog w' = .ok (.tuple #[.agg #[], .bool (hasT ts x)]) w') := Lib.hid fun w' hb => by
            have h1 := wanted_look (wanted_kept (S := fun _ => True) HL2.out.want trivial (Keeps.of_below hb)) HEX.out.2.1 HEX.out.2.2
            rw [h1]; rfl
          clear hwr hpx hkp hgw hmem HPOS
          cases hq : hasT ts x
          all_goals (rw [hq] at HLK HMX; clear hq)
          all_goals go_wp2_with (first | (refine load_wr rfl (.tmp 43) rfl gw (j * 36) rfl x HSX.out HWR.out ?_) | (refine store_wr rfl _ _ rfl rfl wr.heap.size x w0 rfl rfl HSX.out sec_zero (atW_new wr) ?_; intro w3 hx3 hb3; have hbw := (below_alloc (Below.refl _ wr) _).trans hb3; clear hb3; have HX3 := Lib.hid hx3; obtain ⟨_, _, c33, c34, c35⟩ := AtW.parts hx3 HSX.out; clear hx3; have hlk := HLK.out w3 hbw; obtain ⟨_, _, _, _, c35a⟩ := AtW.parts (AtW.later HX3.out (below_alloc (Below.refl _ w3) (.cells #[] 77))) HSX.out))
          rotate_left
          · rename_i hnm
            have hmf : mk x = false := by rw [HMX.out]; simp; omega
            have e1 := HOS.out
            have e2 := HLS.out
            rw [outStep, if_neg (by simp [hmf])] at e1
            rw [if_neg (by simp [hmf])] at e2
            refine ⟨⟨j + 1, by omega, by go_num, Lib.hid ?_⟩, by simp [intOf]; omega⟩
            rw [e1, e2]
            exact HL2.out.below (hbw.trans ((below_alloc (Below.refl _ w3) _).mono hbw.size))
          all_goals
            have hmt : mk x = true := by rw [HMX.out]; first | (simp; done) | (simp; omega)
            have e1 := HOS.out
            have e2 := HLS.out
            rw [outStep, if_pos hmt] at e1
            rw [if_pos hmt] at e2
            have HOS1 := Lib.hid e1
            have HLS1 := Lib.hid e2
            clear e1 e2 HOS HLS HMX HLK
            have HL4 : Hid (L2 w F z (.slice (some ⟨gs, 0, none⟩) n cs) n w2.heap.size w.heap.size ts (outOf mk (st.wait.take j) st.safe) (setl mk st.wait j) (w3.alloc (.cells #[] 77))) := Lib.hid (HL2.out.below (hbw.trans ((below_alloc (Below.refl _ w3) _).mono hbw.size)))
            have hx4 := AtW.parts (AtW.later HX3.out (below_alloc (Below.refl _ w3) (.cells #[] 77))) HSX.out
            rw [HKP.out] at hx4
            have E0 := Lib.hid hx4.1
            have ES := Lib.hid hx4.2.1
            have hxV : wr.heap.size < (w3.alloc (.cells #[] 77)).heap.size := by rw [size_alloc]; have := (Array.getElem?_eq_some_iff.1 HX3.out).1; omega
            have hgs0 := HL2.out.hvs gs rfl
            have hgV : g < (w3.alloc (.cells #[] 77)).heap.size := by have := HL4.out.touch.size; omega
            have hwl := HL2.out.touch.size
            have hgs1 : ¬ g = gs := fun e => by have h1 := hgs0.1.2; rw [← e, HA.out.own.2] at h1; omega
            have hxs1 : ¬ wr.heap.size = gs := by have := hgs0.2; omega
            have C1 : Hid ((w3.alloc (.cells #[] 77)).cell? ⟨g, 1, none⟩ = some (.slice (some ⟨gs, 0, none⟩) n cs)) := Lib.hid (cell_row ((HBG.out g HA.out.own.1 (by rw [HA.out.own.2]; decide) hlt _ HL4.out.touch).trans HA.out.row) 1 _ rfl)
            have HSO : Hid (Secs (outOf mk (st.wait.take j) st.safe)) := Lib.hid (outOf_secs mk _ _ HSS.out fun y hy => HWS.out y (List.mem_of_mem_take hy))
            have HSOL : Hid ((outOf mk (st.wait.take j) st.safe).length = n) := Lib.hid (by rw [outOf_len]; exact HNS.out)
            clear hx4 hgs0 c33 c34 c35 c35a hlk
            generalize w3.alloc (.cells #[] 77) = V at *
            refine wp_region_held_drew (S := Touch (· = gs) V.drew) (by kernel_rfl) (Touch.refl _ _) (fun hH0 => ?_)
            refine wpAnyH_take (i := 0) (oi := { dst := some 59, op := Op.move (Operand.tmp 0), type := 26, pos := "bdisk.go:124", after := #[], guard := none }) (v := ?_) rfl (by kernel_rfl) (by kernel_rfl) (by kernel_rfl) (fun _ _ _ h => h) (Or.inl ⟨by rfl, ?_⟩) (by assumption) ?_
            rotate_left
            · (intro w' hSw; go_simp; try with_reducible rfl)
            try simp only [Act.put, List.setIfInBounds_toArray, List.set_cons_zero, List.set_cons_succ]
            refine wpAnyH_take (i := 1) (oi := { dst := some 60, op := Op.nilCheck (Operand.tmp 59), type := 0, pos := "bdisk.go:124", after := #[{ on := 0, ground := Ground.data }], guard := none }) (v := ?_) rfl (by kernel_rfl) (by kernel_rfl) (by kernel_rfl) (fun _ _ _ h => h) (Or.inl ⟨by rfl, ?_⟩) (by assumption) ?_
            rotate_left
            · (intro w' hSw; go_simp; try with_reducible rfl)
            try simp only [Act.put, List.setIfInBounds_toArray, List.set_cons_zero, List.set_cons_succ]
            refine wpAnyH_take (i := 2) (oi := { dst := some 61, op := Op.fieldAddr 70 (Operand.tmp 60) 1, type := 0, pos := "bdisk.go:124", after := #[{ on := 1, ground := Ground.data }], guard := none }) (v := ?_) rfl (by kernel_rfl) (by kernel_rfl) (by kernel_rfl) (fun _ _ _ h => h) (Or.inl ⟨by rfl, ?_⟩) (by assumption) ?_
            rotate_left
            · (intro w' hSw; go_simp; try with_reducible rfl)
            try simp only [Act.put, List.setIfInBounds_toArray, List.set_cons_zero, List.set_cons_succ]
            refine' wpAnyH_take (i := 3) (oi := { dst := some 62, op := Op.load 22 (Operand.tmp 61), type := 22, pos := "bdisk.go:124", after := #[{ on := 2, ground := Ground.data }], guard := none }) (v := _) rfl (by kernel_rfl) (by kernel_rfl) (by kernel_rfl) (fun _ _ _ h => h) (ld_cell (by rfl) 22 _ und_secs rfl _ rfl g 1 rfl (.slice (some ⟨gs, 0, none⟩) n cs) (fun w' hw => (hw.drewL.cell (p := ⟨g, 1, none⟩) hgV hgs1).trans C1.out)) (by assumption) ?_
            try simp only [Act.put, List.setIfInBounds_toArray, List.set_cons_zero, List.set_cons_succ]
            refine wpAnyH_take (i := 4) (oi := { dst := some 63, op := Op.fieldAddr 74 (Operand.tmp 10) 0, type := 0, pos := "bdisk.go:124", after := #[], guard := none }) (v := ?_) rfl (by kernel_rfl) (by kernel_rfl) (by kernel_rfl) (fun _ _ _ h => h) (Or.inl ⟨by rfl, ?_⟩) (by assumption) ?_
            rotate_left
            · (intro w' hSw; go_simp; try with_reducible rfl)
            try simp only [Act.put, List.setIfInBounds_toArray, List.set_cons_zero, List.set_cons_succ]
            refine' wpAnyH_take (i := 5) (oi := { dst := some 64, op := Op.load 3 (Operand.tmp 63), type := 3, pos := "bdisk.go:124", after := #[{ on := 4, ground := Ground.data }], guard := none }) (v := _) rfl (by kernel_rfl) (by kernel_rfl) (by kernel_rfl) (fun _ _ _ h => h) (ld_cell (by rfl) 3 _ und_int rfl _ rfl wr.heap.size 0 rfl (.int .i64 (kp : Int)) (fun w' hw => (hw.drewL.cell (p := ⟨wr.heap.size, 0, none⟩) hxV hxs1).trans E0.out)) (by assumption) ?_
            try simp only [Act.put, List.setIfInBounds_toArray, List.set_cons_zero, List.set_cons_succ]
            refine wpAnyH_take (i := 6) (oi := { dst := some 65, op := Op.fieldAddr 74 (Operand.tmp 10) 1, type := 0, pos := "bdisk.go:124", after := #[], guard := none }) (v := ?_) rfl (by kernel_rfl) (by kernel_rfl) (by kernel_rfl) (fun _ _ _ h => h) (Or.inl ⟨by rfl, ?_⟩) (by assumption) ?_
            rotate_left
            · (intro w' hSw; go_simp; try with_reducible rfl)
            try simp only [Act.put, List.setIfInBounds_toArray, List.set_cons_zero, List.set_cons_succ]
            refine' wpAnyH_take (i := 7) (oi := { dst := some 66, op := Op.load 35 (Operand.tmp 65), type := 35, pos := "bdisk.go:124", after := #[{ on := 6, ground := Ground.data }], guard := none }) (v := _) rfl (by kernel_rfl) (by kernel_rfl) (by kernel_rfl) (fun _ _ _ h => h) (ld_sec (by rfl) _ rfl wr.heap.size 1 rfl x.s HSX.out.1 (fun w' hw => hw.drewL.range hxV hxs1 ES.out)) (by assumption) ?_
            try simp only [Act.put, List.setIfInBounds_toArray, List.set_cons_zero, List.set_cons_succ]
            refine wpAnyH_take (i := 8) (oi := { dst := some 67, op := Op.indexAddr 22 (Operand.tmp 62) (Operand.tmp 64), type := 0, pos := "bdisk.go:124", after := #[{ on := 3, ground := Ground.data }, { on := 5, ground := Ground.data }, { on := 0, ground := Ground.phase }, { on := 1, ground := Ground.phase }, { on := 2, ground := Ground.phase }, { on := 3, ground := Ground.phase }, { on := 4, ground := Ground.phase }, { on := 5, ground := Ground.phase }, { on := 6, ground := Ground.phase }, { on := 7, ground := Ground.phase }], guard := none }) (v := ?_) rfl (by kernel_rfl) (by kernel_rfl) (by kernel_rfl) (fun _ _ _ h => h) (Or.inl ⟨by rfl, ?_⟩) (by assumption) ?_
            rotate_left
            · (intro w' hSw; go_simp; try with_reducible rfl)
            try simp only [Act.put, List.setIfInBounds_toArray, List.set_cons_zero, List.set_cons_succ]
            -- 9
            refine wpAnyH_ready (rs := [9]) (by kernel_rfl) (by simp) ?_
            refine AllReadyH.cons (o := { dst := none, op := Op.store 35 (Operand.tmp 67) (Operand.tmp 66), type := 0, pos := "bdisk.go:124", after := #[{ on := 8, ground := Ground.data }, { on := 7, ground := Ground.data }, { on := 0, ground := Ground.phase }, { on := 1, ground := Ground.phase }, { on := 2, ground := Ground.phase }, { on := 3, ground := Ground.phase }, { on := 4, ground := Ground.phase }, { on := 5, ground := Ground.phase }, { on := 6, ground := Ground.phase }, { on := 7, ground := Ground.phase }], guard := none }) rfl (fun K hK => ?_) AllReadyH.nil
            refine step_store_own (by rfl) _ _ (by rfl) 0 gs kp n cs (by rfl) x.s (by rfl) HSX.out _ HSO.out (by rw [HSOL.out]; exact hkn) HL4.out.own.drew ?_
            intro w6 ho6 ht6
            have HO6 := Lib.hid ho6
            have HT6 := Lib.hid ht6
            clear ho6
            dsimp only
            have h1 := ht6
            refine hK.out _ _ ?_ (fun hHeld => ?_)
            · exact ht6
            clear hK K ht6
            try simp only [Act.put, List.setIfInBounds_toArray, List.set_cons_zero, List.set_cons_succ]
            refine wpAnyH_done (by kernel_rfl) ?_ _
            have HT6 := Lib.hid HT6.out.drewL
            have HL6 := Lib.hid (HL4.out.store HT6.out HO6.out)
            clear hHeld hH0
            clear h1
            have hga := HL6.out.lt
            have c0 : w6.cell? ⟨wr.heap.size, 0, none⟩ = some (.int .i64 (kp : Int)) := (HT6.out.cell (p := ⟨wr.heap.size, 0, none⟩) hxV hxs1).trans E0.out
            have hkl : kp < (setl mk st.wait j).length := by rw [setl_len]; omega
            have ca := cell_row HL6.out.row kp _ (ar_at _ kp hkl)
            have za := frozen_row HL6.out.row kp
            have hk65 : (kp : Int) < 65 := by omega
            go_wp2_with fail
            refine ⟨⟨j + 1, by omega, by go_num, Lib.hid ?_⟩, by simp [intOf]; omega⟩
            rw [HOS1.out, HLS1.out, HKP.out]
            exact HL6.out.mark kp (j + 1)
        · obtain rfl : j = m := by omega
          have e1 := HL2.out
          rw [List.take_of_length_le (by rw [HMS.out]; omega)] at e1
          have HL3 := Lib.hid e1
          have hwl := HL2.out.touch.size
          have c2 : wr.cell? ⟨g, 2, none⟩ = some (.slice (some ⟨gw, 0, none⟩) j cw) := cell_row ((HBG.out g HA.out.own.1 (by rw [HA.out.own.2]; decide) hlt _ HL2.out.touch).trans HA.out.row) 2 _ rfl
          clear e1 HL2
          have hmcw : j ≤ cw := HGW.out.2.2.1
          go_wp2_with fail
          clear c2
          obtain ⟨W3, hW3⟩ : ∃ W3, W3 = wr := ⟨_, rfl⟩
          subst hW3
          have hl3 := HL3.out.lt
          have hgw0 := HGW.out
          have hgw3 : W3.heap[gw]? = w.heap[gw]? := HBG.out gw hgw0.1.1 (by have := hgw0.1.2; omega) hgw0.2.1 _ HL3.out.touch
          have HLR0 : Hid (LeftRow W3 gw cw [] st.wait 0) := Lib.hid ((LeftRow.start (B := 0) (by have := HA.out.wait; rwa [HMS.out] at this)).next hgw3)
          have HLF : Hid (∀ i, ∀ y ∈ leftUpto mk st.wait i, Sec y.s) := Lib.hid fun i y hy => HWS.out y (leftUpto_mem mk _ i y hy)
          have HP65 : Hid (∀ y ∈ st.wait, 0 ≤ y.pos ∧ y.pos < 65) := Lib.hid fun y hy => by have := HPOS.out y hy; omega
          have hgn : ¬ w2.heap.size = gw := by omega
          go_loopw [13, 84] (fun lv iv wr => ∃ (i nl : Nat), i ≤ j ∧ iv = .int .i64 (i : Int) ∧ lv = .slice (some ⟨gw, 0, none⟩) nl cw ∧ Hid ((leftUpto mk st.wait i).length = nl) ∧ Hid (LeftRow wr gw cw (leftUpto mk st.wait i) st.wait i) ∧ Hid (Touch (· = gw) W3 wr)) (fun _ iv _ => j - (intOf iv).toNat)
          case atStart => exact ⟨0, 0, by omega, rfl, by simp, Lib.hid (by simp [leftUpto]), by simpa [leftUpto] using HLR0, Lib.hid (Touch.refl _ _)⟩
          case round =>
            obtain ⟨i, nl, hi, rfl, rfl, HNL, HLR, HT3⟩ := hrel
            have hnl := leftUpto_len mk st.wait i
            rw [HNL.out] at hnl
            by_cases hai : i < j
            · have hai1 : (i:Int) < j := by omega
              have hil : i < st.wait.length := by rw [HMS.out]; exact hai
              have hmem := List.getElem_mem hil
              have hpx := HPOS.out _ hmem
              have HSX := Lib.hid (HWS.out _ hmem)
              have HST := Lib.hid (stays_setl mk st.wait HP65.out i hil)
              have HLS := Lib.hid (leftUpto_snoc mk st.wait i hil)
              have HWR := Lib.hid (HLR.out.range hil)
              have HSK := Lib.hid (fun w' (h : LeftRow w' gw cw (leftUpto mk st.wait i) st.wait i) => h.skip hil HSX.out)
              have hex : Hid (st.wait[i] = st.wait[i]) := Lib.hid rfl
              have HSI := Lib.hid HSX.out
              obtain ⟨x, hx⟩ : ∃ x, st.wait[i] = x := ⟨_, rfl⟩
              rw [hx] at HSX HWR hpx HLS HST
              have HX := Lib.hid hx
              clear hx hex hmem
              obtain ⟨kp, hkp⟩ : ∃ kp : Nat, x.pos = (kp : Int) := ⟨x.pos.toNat, by omega⟩
              have hk65 : kp < 65 := by have := hpx.2; omega
              have hk65' : (kp : Int) < 65 := by omega
              have HXC := Lib.hid hkp
              rw [hkp] at HST
              have HST' : Hid (staysB mk st.wait i x = decide ((setl mk st.wait j).getD kp 0 ≤ i)) := Lib.hid (by have := HST.out; rw [HMS.out] at this; exact this)
              have hga2 : wr.heap[w2.heap.size]? = W3.heap[w2.heap.size]? := HT3.out.block _ hl3 hgn
              have hs3 := HT3.out.size
              have HGA : Hid (wr.heap[w2.heap.size]? = some (.cells (ar (setl mk st.wait j)) 90 (0, 0))) := Lib.hid (hga2.trans HL3.out.row)
              have HAT := ar_at (setl mk st.wait j) kp (by rw [setl_len]; exact hk65)
              have hsb := setl_bound mk st.wait kp j
              obtain ⟨sv, hsv⟩ : ∃ sv, (setl mk st.wait j).getD kp 0 = sv := ⟨_, rfl⟩
              rw [hsv] at HST' HAT hsb
              have hsi : (sv : Int) ≤ 900 := by omega
              clear hpx hkp HST hsv hga2
              have HA2 := Lib.hid HAT
              clear HAT
              by_cases hst : sv ≤ i
              · have q1 : decide ((sv : Int) ≤ (i : Int)) = true := by simp; omega
                go_wp2_with (first | (refine load_wr rfl (.tmp 87) rfl gw (i * 36) rfl x HSX.out HWR.out ?_) | (refine store_wr rfl _ _ rfl rfl wr.heap.size x w0 rfl rfl HSX.out sec_zero (atW_new wr) ?_; intro w3 hx3 hb3; have hbw := (below_alloc (Below.refl _ wr) _).trans hb3; clear hb3; have HX3 := Lib.hid hx3; obtain ⟨c0, _, _, _, _⟩ := AtW.parts hx3 HSX.out; rw [HXC.out] at c0; clear hx3; have ca := cell_row (row_later HGA.out hbw (by omega)) kp _ HA2.out) | (refine load_wr rfl (.tmp 15) rfl wr.heap.size 0 rfl x HSX.out HX3.out.range ?_) | (refine build_one elem_wrs (by decide) rfl (.tmp 96) rfl x.c rfl (Wr.c_len HSX.out) ?_) | (at_builtin; refine ap_left rfl (.tmp 95) (.tmp 97) rfl ((HLR.out.below hbw).below (below_alloc (Below.refl _ w3) _)) hil HSI.out (HLF.out i) (by rw [HNL.out]; exact hnl) HX.out nl HNL.out rfl w3.heap.size 1 rfl (AtW.range (heap_alloc_new w3 _)) ?_; intro w4 hl4 ht4; have HL4 := Lib.hid hl4; have HT4 := Lib.hid ht4; clear hl4 ht4))
                have hz4 := HT4.out.size
                rw [size_alloc] at hz4
                have hb3s := hbw.size
                have hstay : staysB mk st.wait i x = true := by rw [HST'.out]; simpa using hst
                have e1 := HLS.out
                rw [if_pos hstay] at e1
                refine ⟨⟨i + 1, nl + 1, by omega, by go_num, rfl, Lib.hid ?_, Lib.hid ?_, Lib.hid ?_⟩, by simp [intOf]; omega⟩
                · rw [e1, List.length_append, HNL.out]; rfl
                · rw [e1]; exact HL4.out
                · exact HT3.out.trans ((Touch.of_below (hbw.trans ((below_alloc (Below.refl _ w3) _).mono hb3s))).trans HT4.out)
              · have q1 : decide ((sv : Int) ≤ (i : Int)) = false := by simp; omega
                go_wp2_with (first | (refine load_wr rfl (.tmp 87) rfl gw (i * 36) rfl x HSX.out HWR.out ?_) | (refine store_wr rfl _ _ rfl rfl wr.heap.size x w0 rfl rfl HSX.out sec_zero (atW_new wr) ?_; intro w3 hx3 hb3; have hbw := (below_alloc (Below.refl _ wr) _).trans hb3; clear hb3; have HX3 := Lib.hid hx3; obtain ⟨c0, _, _, _, _⟩ := AtW.parts hx3 HSX.out; rw [HXC.out] at c0; clear hx3; have ca := cell_row (row_later HGA.out hbw (by omega)) kp _ HA2.out))
                have hstay : staysB mk st.wait i x = false := by rw [HST'.out]; simpa using hst
                have e1 := HLS.out
                rw [if_neg (by simp [hstay]), List.append_nil] at e1
                refine ⟨⟨i + 1, nl, by omega, by go_num, rfl, Lib.hid ?_, Lib.hid ?_, Lib.hid ?_⟩, by simp [intOf]; omega⟩
                · rw [e1, HNL.out]
                · rw [e1]; exact HSK.out _ (HLR.out.below hbw)
                · exact HT3.out.trans (Touch.of_below hbw)
            · obtain rfl : i = j := by omega
              have hs3 := HT3.out.size
              have hgg : ¬ g = gw := fun e => by have h1 := hgw0.1.2; rw [← e, HA.out.own.2] at h1; omega
              have hrow : wr.heap[g]? = some (.cells #[.pointer (some ⟨g, 0, none⟩), .slice ps n cs, .slice (some ⟨gw, 0, none⟩) i cw, vn, .int .i64 st.ep, vl, .int .i64 st.asked, vf] 70 (0, 0)) := (HT3.out.block g (by omega) hgg).trans ((HBG.out g HA.out.own.1 (by rw [HA.out.own.2]; decide) hlt _ HL3.out.touch).trans HA.out.row)
              have c2 : wr.cell? ⟨g, 2, none⟩ = some (.slice (some ⟨gw, 0, none⟩) i cw) := cell_row hrow 2 _ rfl
              have z2 := frozen_row hrow 2
              have HROW := Lib.hid hrow
              clear hrow
              go_wp2_with fail
              go_end0
              have hns := HNS.out
              have hms := HMS.out
              subst hns
              subst hms
              have HSC : settle st.safe st.wait ts = (outOf mk st.wait st.safe, leftUpto mk st.wait st.wait.length) := by rw [HMK.out]; exact settleC _ _ _ fun y hy => (HA.out.eps y hy).1
              have hseen := seen_settled st.safe st.wait ts fun y hy => (HPOS.out y hy).1
              rw [HSC] at hseen ⊢
              obtain ⟨es, he⟩ := HA.out.log
              have h34 : Touch (fun b => F b ∧ (z b = 0 ∨ z b = 2)) W3 (wr.setCell ⟨g, 2, none⟩ (.slice (some ⟨gw, 0, none⟩) nl cw)) := Touch.setCell (HT3.out.mono fun b hb => by rw [hb]; exact ⟨hgw0.1.1, Or.inr hgw0.1.2⟩) ⟨g, 2, none⟩ ⟨HA.out.own.1, Or.inl HA.out.own.2⟩ _
              have hT : Touch (fun b => F b ∧ (z b = 0 ∨ z b = 1 ∨ z b = 2)) w (wr.setCell ⟨g, 2, none⟩ (.slice (some ⟨gw, 0, none⟩) nl cw)) := (HL3.out.touch.mono fun b hb => ⟨(HA.out.safeS b hb).1, Or.inr (Or.inl (HA.out.safeS b hb).2)⟩).trans (h34.mono fun b hb => ⟨hb.1, by have := hb.2; omega⟩)
              have off : ∀ k, 3 ≤ k → Keeps (Zn F z k) w (wr.setCell ⟨g, 2, none⟩ (.slice (some ⟨gw, 0, none⟩) nl cw)) := fun k hk => hT.keeps fun b hb hb2 => by have h1 := hb.2; have h2 := hb2.2; omega
              have hol : (outOf mk st.wait st.safe).length = st.safe.length := outOf_len _ _ _
              refine ⟨rfl, .slice (some ⟨gw, 0, none⟩) nl cw, ⟨setCell_heap HROW.out _, HA.out.own, ?_, HA.out.safeS, ?_, HA.out.waitS, ?_, HA.out.seenS, ⟨es, logIn_kept he HA.out.logS (off 4 (by decide)) (off 6 (by decide))⟩, HA.out.logS, faults_kept HA.out.faults (off 5 (by decide)), ?_⟩, hT⟩
              · show Own _ 0 _ 32 _ (outOf mk st.wait st.safe).length (cellsOf (outOf mk st.wait st.safe))
                rw [hol]
                exact own_kept HL3.out.own HA.out.safeS (h34.keeps fun b hb hb2 => by have h1 := hb.2; have h2 := hb2.2; omega)
              · show Own _ 0 _ 36 _ (leftUpto mk st.wait st.wait.length).length (wrsC (leftUpto mk st.wait st.wait.length))
                have h1 := HLR.out.own (HLF.out _) (by rw [HNL.out]; exact hnl) hgw0.2.2.1 hgw0.2.2.2
                rw [HNL.out] at h1 ⊢
                exact own_set_other h1 fun g' m' c' e => by cases e; exact fun e2 => hgg e2.symm
              · show Own _ 0 _ 32 _ (outOf mk st.wait st.safe).length (cellsOf (outOf (fun _ => true) (leftUpto mk st.wait st.wait.length) (outOf mk st.wait st.safe)))
                rw [hol]
                have h1 := own_kept HA.out.seen HA.out.seenS (off 3 (by decide))
                rw [seenOf] at h1
                dsimp only at hseen
                rw [hseen]
                exact h1
              · exact fun y hy => HA.out.eps y (leftUpto_mem mk _ _ y hy)
end Go.Proofs.Yteobhljkjgocdaa.dsk
