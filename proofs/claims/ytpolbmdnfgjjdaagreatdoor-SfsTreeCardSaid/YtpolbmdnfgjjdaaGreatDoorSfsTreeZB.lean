/- What SfsTree wants, part 28. -/
import Derived.Test.YtpolbmdnfgjjdaaGreatDoorSfsTreeA
import Derived.Test.YtpolbmdnfgjjdaaGreatDoorSfsTreeB
import Derived.Test.YtpolbmdnfgjjdaaGreatDoorSfsTreeG
import Derived.Test.YtpolbmdnfgjjdaaGreatDoorSfsTreeO
import Derived.Test.YtpolbmdnfgjjdaaGreatDoorSfsTreeQ
set_option linter.unusedVariables false
set_option linter.unusedSimpArgs false
namespace Go.Proofs.YtpolbmdnfgjjdaaGreatDoor
namespace fs
set_option maxRecDepth 100000
open Go.ChangeShapes Go.WideShapes Go.ChangeAt Go.RowKit
open rows
open sec
open dsk (frozen_row setCell_heap grow build_one)
open ly
open pa
open lk
structure TSm (t : List Nd) : Prop where
 len : t.length ≤ 100
 data : ∀ i, i < t.length → (t.getD i nd0).data.size ≤ 128
 path : ∀ i, i < t.length → (t.getD i nd0).path.size ≤ 1000
def TDone (F : Nat → Prop) (g : Nat) (w : World) (r : Int × List Nd) (e : Ending) (w' : World) : Prop := e = .returned (.int .i64 r.1) ∧ TIs w' (grow F w w') g r.2 ∧ dsk.Touch F w w'
theorem tat_grow {w w1 : World} {F : Nat → Prop} {g : Nat} {t : List Nd} {v : Value} (h : TAt w F g t v) (hb : Below w.heap.size w w1) : TIs w1 (grow F w w1) g t :=
 ⟨v, (h.later hb).row, (h.later hb).own, h.inS.mono fun b hb => ⟨Or.inl hb.1, hb.2⟩, Or.inl h.inF⟩
theorem tdone_same {w w1 : World} {F : Nat → Prop} {g : Nat} {t : List Nd} {v : Value} (h : TAt w F g t v) (hb : Below w.heap.size w w1) (r : Int) : TDone F g w (r, t) (.returned (.int .i64 r)) w1 :=
 ⟨rfl, tat_grow h hb, dsk.Touch.of_below hb⟩
theorem tis_mono {w : World} {F G : Nat → Prop} {g : Nat} {t : List Nd} (h : TIs w F g t) (hS : ∀ b, F b → G b) : TIs w G g t := by
 obtain ⟨v, h1, h2, h3, h4⟩ := h
 exact ⟨v, h1, h2, h3.mono fun b hb => ⟨hS b hb.1, hb.2⟩, hS _ h4⟩
theorem tdone_from {F : Nat → Prop} {g : Nat} {w w1 : World} {r : Int × List Nd} {e : Ending} {w' : World} (hb : Below w.heap.size w w1) (h : TDone F g w1 r e w') : TDone F g w r e w' := by
 obtain ⟨h1, h2, h3⟩ := h
 refine ⟨h1, tis_mono h2 fun b hb' => ?_, (dsk.Touch.of_below hb).trans h3⟩
 rcases hb' with h | h
 ·exact Or.inl h
 ·exact Or.inr ⟨Nat.le_trans hb.size h.1, h.2⟩
theorem own_setT {w : World} {B gm i : Nat} {e : TypeId} {sz n : Nat} {v u : Value} {cs : List Value} (h : Own w B e sz v n cs) (hg : gm < B) : Own (w.setCell ⟨gm, i, none⟩ u) B e sz v n cs := by
 refine ⟨h.1, ?_⟩
 rcases h.2 with h2 | ⟨g, cap, cur, hv, h3, h4, h5⟩
 ·exact Or.inl h2
 ·exact Or.inr ⟨g, cap, cur, hv, h3, (Below.heap_setCell _ _ _ _ (show g ≠ gm by omega)).trans h4, h5⟩
theorem own_zero {w : World} {B : Nat} {e : TypeId} {sz n : Nat} {v : Value} {cs : List Value} (h : Own w B e sz v n cs) : Own w 0 e sz v n cs := by
 refine ⟨h.1, ?_⟩
 rcases h.2 with h2 | ⟨g, cap, cur, hv, h3, h4, h5⟩
 ·exact Or.inl h2
 ·exact Or.inr ⟨g, cap, cur, hv, Nat.zero_le _, h4, h5⟩
theorem own_inT {w : World} {B : Nat} {e : TypeId} {sz n : Nat} {v : Value} {cs : List Value} (h : Own w B e sz v n cs) : OwnT (fun b => B ≤ b ∧ b < w.heap.size) v := by
 intro a m c hv
 rcases h.2 with ⟨h1, h2⟩ | ⟨g, cap, cur, h1, h2, h3, _⟩
 ·rw [hv] at h1; cases h1
 ·rw [hv] at h1
  cases h1
  exact ⟨h2, (Array.getElem?_eq_some_iff.1 h3).1⟩
theorem tis_put {w w1 : World} {F : Nat → Prop} {g : Nat} {t : List Nd} {v : Value} (h : TAt w F g t v) (hb : Below w.heap.size w w1) {u : Value} {t' : List Nd} (ho : Own w1 w.heap.size 67 3 u t'.length (nodesC t')) :
  TIs (w1.setCell ⟨g, 0, none⟩ u) (grow F w (w1.setCell ⟨g, 0, none⟩ u)) g t' ∧ dsk.Touch F w (w1.setCell ⟨g, 0, none⟩ u) := by
 have hrow := setCell_heap (i := 0) (hb.block g h.lt |>.trans h.row) u
 refine ⟨⟨u, hrow, own_zero (own_setT ho h.lt), (own_inT ho).mono fun b hb2 => ⟨Or.inr ⟨hb2.1, by rw [World.size_setCell]; exact hb2.2⟩, by have := h.lt; omega⟩, Or.inl h.inF⟩, ?_⟩
 exact (dsk.Touch.of_below hb).setCell ⟨g, 0, none⟩ h.inF u
theorem nodes_one (t : List Nd) : ∀ u ∈ nodesC t, u.oneCell' = true := by
 intro u hu
 unfold nodesC at hu
 obtain ⟨l, hl, hu⟩ := List.mem_flatten.1 hu
 obtain ⟨a, _, rfl⟩ := List.mem_map.1 hl
 simp at hu
 rcases hu with rfl | rfl | rfl <;> rfl
theorem sumB_le (t : List Nd) (h : ∀ a ∈ t, a.data.size ≤ 128) : tBlocks t ≤ t.length * 4 := by
 induction t with
 | nil => exact Nat.le_refl _
 | cons a t ih =>
  have h1 := ih fun b hb => h b (List.mem_cons_of_mem _ hb)
  have h2 := need_le (h a (List.mem_cons_self ..))
  unfold tBlocks at h1 ⊢
  rw [List.map_cons, List.sum_cons, List.length_cons]
  omega
theorem tsm_mem {t : List Nd} (h : TSm t) : ∀ a ∈ t, a.data.size ≤ 128 := fun a ha => by
 obtain ⟨i, hi, rfl⟩ := List.getElem_of_mem ha
 have := h.data i hi
 simpa [List.getD, hi] using this
theorem take_one {t : List Nd} {i : Nat} (h : i < t.length) : t.take (i + 1) = t.take i ++ [t.getD i nd0] := by
 rw [List.take_succ_eq_append_getElem h]; simp [List.getD, h]
theorem sumB_next {t : List Nd} {i : Nat} (h : i < t.length) : tBlocks (t.take (i + 1)) = tBlocks (t.take i) + need (t.getD i nd0).data.size := by
 rw [take_one h, tBlocks, tBlocks, List.map_append, List.sum_append]; simp
set_option maxRecDepth 100000 in
set_option maxHeartbeats 1600000 in
theorem rtblocks_is (w : World) (F : Nat → Prop) (g : Nat) (t : List Nd) (v : Value) (h : TAt w F g t v) (hs : TSm t) :
  Calls Tryz.prog 32 #[.pointer (some ⟨g, 0, none⟩)] w fun e w' => e = .returned (.int .i64 (tBlocks t : Int)) ∧ w' = w := by
 obtain ⟨⟨p, c, rfl⟩, c0, _⟩ := h.parts
 have HN := Lib.hid fun i hi => h.node (i := i) hi
 have HD := Lib.hid hs.data
 have HX := Lib.hid fun i hi => sumB_next (t := t) (i := i) hi
 have HB : Hid (∀ i, tBlocks (t.take i) ≤ 400) := Lib.hid fun i => by
  have h1 := sumB_le (t.take i) fun a ha => tsm_mem hs a (List.mem_of_mem_take ha)
  have h2 := hs.len
  rw [List.length_take] at h1
  omega
 have HE : Hid (tBlocks t = tBlocks (t.take t.length)) := Lib.hid (by rw [List.take_length])
 have HNE := Lib.hid fun z w' hz => need_any z w' hz
 have hl := hs.len
 clear h hs
 obtain ⟨n, hn⟩ : ∃ n, t.length = n := ⟨_, rfl⟩
 rw [hn] at HN HD HX HE c0 hl
 generalize tBlocks t = r at *
 clear hn
 go_enter Tryz.func32, Tryz.ntmps32
 go_wp2_with fail
 go_loopw [3, 4] (fun sv iv wr => ∃ i s : Nat, i ≤ n ∧ s ≤ 400 ∧ iv = .int .i64 (i : Int) ∧ sv = .int .i64 (s : Int) ∧ Hid (s = tBlocks (t.take i)) ∧ wr = w) (fun _ iv _ => n - (intOf iv).toNat)
 case atStart => exact ⟨0, 0, by omega, by omega, rfl, rfl, Lib.hid rfl, rfl⟩
 case round =>
  obtain ⟨i, s, hi, hs4, rfl, rfl, HS, rfl⟩ := hrel
  by_cases hlt : i < n
  ·have hlti : (i : Int) < (n : Int) := by omega
   obtain ⟨b, c', hv, hc1, hc2, hb, _, _, _, _, k2⟩ := HN.out i hlt
   cases hv
   have hx := HX.out i hlt
   have hdz := HD.out i hlt
   have hle := HB.out (i + 1)
   obtain ⟨y, hy⟩ : ∃ y, (t.getD i nd0).data = y := ⟨_, rfl⟩
   rw [hy] at k2 hx hdz
   have HNX : Hid (tBlocks (t.take (i + 1)) = s + need y.size) := Lib.hid (by rw [hx, HS.out])
   rw [HNX.out] at hle
   have HNEi := Lib.hid (HNE.out y.size wr hdz)
   have hyi : (y.size : Int) ≤ 128 := by omega
   obtain ⟨q, hq⟩ : ∃ q, need y.size = q := ⟨_, rfl⟩
   rw [hq] at hle HNX HNEi
   have hqi : (s : Int) + (q : Int) ≤ 400 := by omega
   clear hx hdz hy hq HN HX HB HS
   go_wp2_with (go_at_call 57; refine HNEi.out.mono ?_; rintro e w5 ⟨rfl, hw⟩; obtain rfl : wr = w5 := hw)
   go_roundw
   case rel => exact ⟨i + 1, s + q, by omega, by omega, by go_num, by go_num, Lib.hid HNX.out.symm, trivial⟩
   case measure => simp [intOf]; omega
  ·obtain rfl : i = n := by omega
   have hr : r = s := by rw [HE.out, HS.out]
   subst hr
   clear HN HX HB HE HNE HS
   go_wp2_with fail
   go_ret
   exact ⟨rfl, rfl⟩
set_option maxRecDepth 100000 in
set_option maxHeartbeats 3200000 in
theorem rtmake_is (w : World) (F : Nat → Prop) (g : Nat) (t : List Nd) (v : Value) (h : TAt w F g t v) (hs : TSm t) (s : ByteArray) (hsz : s.size ≤ 100000) (dir : Bool) :
  Calls Tryz.prog 75 #[.pointer (some ⟨g, 0, none⟩), .string s, .bool dir] w (TDone F g w (tMake t s dir)) := by
 have HT := Lib.hid h
 have HPL := Lib.hid (rtplace_is w F g t v h (by have := hs.len; omega) s hsz)
 have HA := Lib.hid fun w' (hb : Below w.heap.size w w') => rat_is w' F g t v (h.later hb) (by have := hs.len; omega) s
 obtain ⟨⟨p, c, rfl⟩, c0, f0⟩ := h.parts
 have hgl := h.lt
 have HC := Lib.hid fun w' (hb : Below w.heap.size w w') => (hb.cell (p := ⟨g, 0, none⟩) hgl).trans c0
 have hl := hs.len
 obtain ⟨V, hV⟩ : ∃ V, tMake t s dir = V := ⟨_, rfl⟩
 rw [hV]
 unfold tMake at hV
 obtain ⟨n, hn⟩ : ∃ n, t.length = n := ⟨_, rfl⟩
 rw [hn] at hV HC hl
 have hli : (n : Int) ≤ 100 := by omega
 generalize tPlace t s = e1 at *
 clear hs hsz c0 f0
 by_cases h1 : e1 = 0
 case neg =>
  rw [if_pos h1] at hV
  subst hV
  have hb1 : (e1 != 0) = true := by simpa using h1
  go_enter Tryz.func75, Tryz.ntmps75
  go_wp2_with (go_at_call 131; refine HPL.out.mono ?_; rintro e w1 ⟨rfl, hb⟩; have B1 := Lib.hid hb; clear hb)
  go_ret
  exact tdone_same HT.out B1.out _
 subst h1
 rw [if_neg (by simp)] at hV
 cases ht : tAt t s with
 | some k =>
  rw [ht] at hV
  replace hV : (5, t) = V := hV
  subst hV
  have HAI : Hid (atI t s = (k : Int)) := Lib.hid (by rw [atI, ht])
  clear ht
  go_enter Tryz.func75, Tryz.ntmps75
  go_wp2_with (first | (go_at_call 131; refine HPL.out.mono ?_; rintro e w1 ⟨rfl, hb⟩; have B1 := Lib.hid hb; clear hb) | (go_at_call 132; refine (HA.out _ B1.out).mono ?_; rintro e w3 ⟨rfl, hw⟩; obtain rfl : w1 = w3 := hw.symm; rw [HAI.out]))
  go_ret
  exact tdone_same HT.out B1.out _
 | none =>
  rw [ht] at hV
  replace hV : (if 15 ≤ n then (2, t) else (0, t ++ [⟨s, dir, ByteArray.empty⟩])) = V := hV
  have HAI : Hid (atI t s = -1) := Lib.hid (by rw [atI, ht])
  clear ht
  by_cases hfull : 15 ≤ n
  ·rw [if_pos hfull] at hV
   subst hV
   have hfi : (15 : Int) ≤ (n : Int) := by omega
   go_enter Tryz.func75, Tryz.ntmps75
   go_wp2_with (first | (go_at_call 131; refine HPL.out.mono ?_; rintro e w1 ⟨rfl, hb⟩; have B1 := Lib.hid hb; have q0 := HC.out _ hb; clear hb) | (go_at_call 132; refine (HA.out _ B1.out).mono ?_; rintro e w3 ⟨rfl, hw⟩; obtain rfl : w1 = w3 := hw.symm; rw [HAI.out]))
   go_ret
   exact tdone_same HT.out B1.out _
  ·rw [if_neg hfull] at hV
   subst hV
   have hfi : (n : Int) < 15 := by omega
   have HR := Lib.hid fun w' (hb : Below w.heap.size w w') => (own_laterT HT.out.own hb).rd
   rw [hn] at HR
   have HFZ := Lib.hid fun w' (hb : Below w.heap.size w w') => frozen_row ((hb.block g hgl).trans HT.out.row) 0
   have HSZ := Lib.hid hn
   clear hn
   go_enter Tryz.func75, Tryz.ntmps75
   go_upto_region 8 with (first | (go_at_call 131; refine HPL.out.mono ?_; rintro e w1 ⟨rfl, hb⟩; have B1 := Lib.hid hb; have q0 := HC.out _ hb; clear hb) | (go_at_call 132; refine (HA.out _ B1.out).mono ?_; rintro e w3 ⟨rfl, hw⟩; obtain rfl : w1 = w3 := hw.symm; rw [HAI.out]))
   clear q0
   have Ba := Lib.hid (below_alloc B1.out (.cells #[] 67))
   have q0 := HC.out _ Ba.out
   have O0 := Lib.hid (own_made w1 (B := w.heap.size) 67 3 B1.out.size)
   have RA := Lib.hid (HR.out _ Ba.out)
   go_wp2_with (first
    | (at_builtin; refine ap_rd elem_nodes rfl (.tmp 25) (.tmp 29) rfl w.heap.size _ 0 _ rfl O0.out _ n _ rfl RA.out (nodes_one t) (by omega) Ba.out.size ?_; intro pa ca wa ho hb; rw [Nat.zero_add, List.nil_append] at ho; have OA := Lib.hid ho; have BA := Lib.hid (Ba.out.trans hb); clear ho hb q0)
    | (refine build_one elem_nodes (by decide) rfl (.tmp 33) rfl [.string s, .bool dir, .string { data := #[] }] rfl rfl ?_; have Bb := Lib.hid (below_alloc BA.out (.cells #[.string s, .bool dir, .string { data := #[] }] 67)))
    | (at_builtin; refine ap_rd elem_nodes rfl (.tmp 30) (.tmp 34) rfl w.heap.size _ n _ rfl (OA.out.alloc _) _ 1 [.string s, .bool dir, .string { data := #[] }] rfl (rd_one _ _ 3 #[.string s, .bool dir, .string { data := #[] }] rfl) (nodes_one [⟨s, dir, ByteArray.empty⟩]) (by omega) Bb.out.size ?_; intro pb cb wb ho hb; have OB := Lib.hid ho; have BB := Lib.hid (Bb.out.trans hb); have q1 := HC.out _ BB.out; have f1 := HFZ.out _ BB.out; clear ho hb))
   go_ret
   have OB2 : Own wb w.heap.size 67 3 (.slice pb (n + 1) cb) (t ++ [(⟨s, dir, ByteArray.empty⟩ : Nd)]).length (nodesC (t ++ [(⟨s, dir, ByteArray.empty⟩ : Nd)])) := by
    have h1 := OB.out
    rw [List.length_append, nodesC_app, HSZ.out]
    exact h1
   obtain ⟨r1, r2⟩ := tis_put HT.out BB.out OB2
   exact ⟨rfl, r1, r2⟩
end fs
namespace fs
set_option maxRecDepth 100000
open Go.ChangeShapes Go.WideShapes Go.ChangeAt Go.RowKit
open rows
open sec
open dsk (frozen_row grow build_one)
open ly
open pa
open lk
theorem erase_snoc (l : List Nd) (x : Nd) (j : Nat) : (l ++ [x]).eraseIdx j = if j = l.length then l.eraseIdx j else l.eraseIdx j ++ [x] := by
 by_cases h : j < l.length
 ·rw [if_neg (by omega), List.eraseIdx_append_of_lt_length h]
 ·by_cases e : j = l.length
  ·subst e
   rw [if_pos rfl, List.eraseIdx_append_of_length_le (Nat.le_refl _), Nat.sub_self, List.eraseIdx_of_length_le (Nat.le_refl _)]
   simp
  ·rw [if_neg e, List.eraseIdx_of_length_le (by simp; omega), List.eraseIdx_of_length_le (by omega)]
theorem erase_next {t : List Nd} {i : Nat} (h : i < t.length) (j : Nat) : (t.take (i + 1)).eraseIdx j = if i = j then (t.take i).eraseIdx j else (t.take i).eraseIdx j ++ [t.getD i nd0] := by
 rw [take_one h, erase_snoc]
 have hl : (t.take i).length = i := by rw [List.length_take]; omega
 rw [hl]
 by_cases e : i = j
 ·rw [if_pos e.symm, if_pos e]
 ·rw [if_neg (fun h => e h.symm), if_neg e]
theorem erase_few (t : List Nd) (j : Nat) : (t.eraseIdx j).length ≤ t.length := List.length_eraseIdx_le _ _
theorem nodesC_one (a : Nd) : nodesC [a] = a.c := by simp [nodesC]
set_option maxRecDepth 100000 in
set_option maxHeartbeats 3200000 in
theorem rtdrop_is (w : World) (F : Nat → Prop) (g : Nat) (t : List Nd) (v : Value) (h : TAt w F g t v) (hl : t.length ≤ 100) (j : Nat) (hj : j < t.length) :
  Calls Tryz.prog 133 #[.pointer (some ⟨g, 0, none⟩), .int .i64 (j : Int)] w fun e w' => e = .returned (.tuple #[]) ∧ TIs w' (grow F w w') g (t.eraseIdx j) ∧ dsk.Touch F w w' := by
 have HT := Lib.hid h
 obtain ⟨⟨p, c, rfl⟩, c0, f0⟩ := h.parts
 have hgl := h.lt
 have HN := Lib.hid fun i hi => h.node (i := i) hi
 have HC := Lib.hid fun w' (hb : Below w.heap.size w w') => (hb.cell (p := ⟨g, 0, none⟩) hgl).trans c0
 have HFZ := Lib.hid fun w' (hb : Below w.heap.size w w') => frozen_row ((hb.block g hgl).trans h.row) 0
 have HX := Lib.hid fun i hi => erase_next (t := t) (i := i) hi j
 have HEn : Hid (t.eraseIdx j = (t.take t.length).eraseIdx j) := Lib.hid (by rw [List.take_length])
 have HFew : Hid (∀ i, ((t.take i).eraseIdx j).length ≤ 100) := Lib.hid fun i => by
  have h1 := erase_few (t.take i) j
  rw [List.length_take] at h1
  omega
 obtain ⟨n, hn⟩ : ∃ n, t.length = n := ⟨_, rfl⟩
 have HSZ := Lib.hid hn
 rw [hn] at HN HC HX HEn hl hj
 have hji : (j : Int) < (n : Int) := by omega
 have hni : (n : Int) ≤ 100 := by omega
 clear h c0 f0 hn
 go_enter Tryz.func133, Tryz.ntmps133
 go_wp2_with fail
 go_loopw [4, 5] (fun lv iv wr => ∃ (i m : Nat) (q : Option Addr) (k : Nat), i ≤ n ∧ m ≤ 100 ∧ iv = .int .i64 (i : Int) ∧ lv = .slice q m k ∧ Hid (m = ((t.take i).eraseIdx j).length) ∧ Hid (Own wr w.heap.size 67 3 (.slice q m k) m (nodesC ((t.take i).eraseIdx j))) ∧ Hid (Below w.heap.size w wr)) (fun _ iv _ => n - (intOf iv).toNat)
 case atStart => exact ⟨0, 0, none, 0, by omega, by omega, rfl, rfl, Lib.hid (by simp), Lib.hid (by simp [nodesC]; exact own_nil _ _ _ _), Lib.hid (Below.refl _ _)⟩
 case round =>
  obtain ⟨i, m, q, k, hi, hm, rfl, rfl, HM, HO, HB⟩ := hrel
  have q0 := HC.out _ HB.out
  by_cases hlt : i < n
  ·have hlti : (i : Int) < (n : Int) := by omega
   have hx := HX.out i hlt
   by_cases hij : i = j
   ·have HS : Hid ((t.take (i + 1)).eraseIdx j = (t.take i).eraseIdx j) := Lib.hid (by rw [hx, if_pos hij])
    have hijb : ((i : Int) != (j : Int)) = false := by simp [hij]
    clear hx hij
    go_wp2_with fail
    go_roundw
    case rel => exact ⟨i + 1, m, q, k, by omega, hm, by go_num, rfl, by rw [HS.out]; exact HM, by rw [HS.out]; exact HO, HB⟩
    case measure => simp [intOf]; omega
   ·have HS : Hid ((t.take (i + 1)).eraseIdx j = (t.take i).eraseIdx j ++ [t.getD i nd0]) := Lib.hid (by rw [hx, if_neg hij])
    have hijb : ((i : Int) != (j : Int)) = true := by
     have : (i : Int) ≠ (j : Int) := by omega
     simpa using this
    have hm1 : m + 1 ≤ 100 := by
     have h1 := HFew.out (i + 1)
     rw [HS.out, List.length_append, ← HM.out] at h1
     exact h1
    obtain ⟨b, c', hv, hc1, hc2, hb, _, _, k0, k1, k2⟩ := HN.out i hlt
    cases hv
    have z0 := (HB.out.cell (p := ⟨b, i * 3, none⟩) hb).trans k0
    have z1 := (HB.out.cell (p := ⟨b, i * 3 + 1, none⟩) hb).trans k1
    have z2 := (HB.out.cell (p := ⟨b, i * 3 + 2, none⟩) hb).trans k2
    obtain ⟨a, ha⟩ : ∃ a, t.getD i nd0 = a := ⟨_, rfl⟩
    rw [ha] at HS z0 z1 z2
    clear hx hij k0 k1 k2 ha
    go_wp2_with (first
     | (refine load_node rfl (.tmp 24) rfl b (i * 3) rfl a z0 z1 z2 ?_)
     | (refine build_one elem_nodes (by decide) rfl (.tmp 25) rfl a.c rfl rfl ?_; have B1 := Lib.hid (below_alloc HB.out (.cells a.c.toArray 67)))
     | (at_builtin; refine ap_rd elem_nodes rfl (.tmp 18) (.tmp 26) rfl w.heap.size _ m _ rfl (HO.out.alloc _) _ 1 a.c rfl (dsk.rd_laid wr 67 3 a.c rfl) (by rw [← nodesC_one]; exact nodes_one [a]) (by omega) B1.out.size ?_; intro pb cb wb ho hb; have OB := Lib.hid ho; have BB := Lib.hid (B1.out.trans hb); clear ho hb))
    go_roundw
    case rel => exact ⟨i + 1, m + 1, pb, cb, by omega, by omega, by go_num, rfl, Lib.hid (by rw [HS.out, List.length_append, ← HM.out]; rfl), Lib.hid (by rw [HS.out, nodesC_app, nodesC_one]; exact OB.out), BB⟩
    case measure => simp [intOf]; omega
  ·obtain rfl : i = n := by omega
   have f1 := HFZ.out _ HB.out
   clear HN HX
   go_wp2_with fail
   go_end0
   have hO : Own wr w.heap.size 67 3 (.slice q m k) (t.eraseIdx j).length (nodesC (t.eraseIdx j)) := by
    rw [HEn.out, ← HM.out]; exact HO.out
   obtain ⟨r1, r2⟩ := tis_put HT.out HB.out hO
   exact ⟨rfl, r1, r2⟩
end fs
namespace fs
set_option maxRecDepth 100000
open Go.ChangeShapes Go.WideShapes Go.ChangeAt Go.RowKit
open rows
open sec
open ly
open pa
open lk
def fullU (t : List Nd) (s : ByteArray) (i m : Nat) : Bool := (List.range m).any fun j => decide (j ≠ i) && underB (bys (t.getD j nd0).path) (bys s)
theorem fullU_next (t : List Nd) (s : ByteArray) (i m : Nat) : fullU t s i (m + 1) = (fullU t s i m || (decide (m ≠ i) && underB (bys (t.getD m nd0).path) (bys s))) := by
 rw [fullU, List.range_succ, List.any_append]; simp [fullU]
theorem fullU_more {t : List Nd} {s : ByteArray} {i m : Nat} (h : fullU t s i m = true) : ∀ l, m ≤ l → fullU t s i l = true
 | 0, hl => by
   obtain rfl : m = 0 := by omega
   exact h
 | l + 1, hl => by
  by_cases e : m = l + 1
  ·rw [← e]; exact h
  ·rw [fullU_next, fullU_more h l (by omega)]; rfl
set_option maxRecDepth 100000 in
set_option maxHeartbeats 6400000 in
theorem rtunlink_is (w : World) (F : Nat → Prop) (g : Nat) (t : List Nd) (v : Value) (h : TAt w F g t v) (hs : TSm t) (s : ByteArray) (hsz : s.size ≤ 100000) :
  Calls Tryz.prog 80 #[.pointer (some ⟨g, 0, none⟩), .string s] w (TDone F g w (tUnlink t s)) := by
 have HT := Lib.hid h
 have HPL := Lib.hid (rtplace_is w F g t v h (by have := hs.len; omega) s hsz)
 have HA := Lib.hid fun w' (hb : Below w.heap.size w w') => rat_is w' F g t v (h.later hb) (by have := hs.len; omega) s
 have HDr := Lib.hid fun w' (hb : Below w.heap.size w w') j hj => rtdrop_is w' F g t v (h.later hb) hs.len j hj
 have HU := Lib.hid fun (u : ByteArray) w' (hu : u.size ≤ 1000) => runder_is u s w' (by omega) hsz
 have HPS := Lib.hid hs.path
 obtain ⟨⟨p, c, rfl⟩, c0, f0⟩ := h.parts
 have hgl := h.lt
 have HN := Lib.hid fun i hi => h.node (i := i) hi
 have HC := Lib.hid fun w' (hb : Below w.heap.size w w') => (hb.cell (p := ⟨g, 0, none⟩) hgl).trans c0
 have hl := hs.len
 obtain ⟨V, hV⟩ : ∃ V, tUnlink t s = V := ⟨_, rfl⟩
 rw [hV]
 unfold tUnlink at hV
 have HFE : Hid (∀ i, tFull t s i = fullU t s i t.length) := Lib.hid fun _ => rfl
 have HFN := Lib.hid fun i m => fullU_next t s i m
 have HFM := Lib.hid fun i m h => fullU_more (t := t) (s := s) (i := i) (m := m) h
 obtain ⟨n, hn⟩ : ∃ n, t.length = n := ⟨_, rfl⟩
 rw [hn] at HC hl HN HPS HDr HFE
 have hli : (n : Int) ≤ 100 := by omega
 have HSZ := Lib.hid hn
 generalize tPlace t s = e1 at *
 clear h hs hsz c0 f0
 by_cases h1 : e1 = 0
 case neg =>
  rw [if_pos h1] at hV
  subst hV
  have hb1 : (e1 != 0) = true := by simpa using h1
  go_enter Tryz.func80, Tryz.ntmps80
  go_wp2_with (go_at_call 131; refine HPL.out.mono ?_; rintro e w1 ⟨rfl, hb⟩; have B1 := Lib.hid hb; clear hb)
  go_ret
  exact tdone_same HT.out B1.out _
 subst h1
 rw [if_neg (by simp)] at hV
 cases ht : tAt t s with
 | none =>
  rw [ht] at hV
  replace hV : (4, t) = V := hV
  subst hV
  have HAI : Hid (atI t s = -1) := Lib.hid (by rw [atI, ht])
  clear ht
  go_enter Tryz.func80, Tryz.ntmps80
  go_wp2_with (first | (go_at_call 131; refine HPL.out.mono ?_; rintro e w1 ⟨rfl, hb⟩; have B1 := Lib.hid hb; clear hb) | (go_at_call 132; refine (HA.out _ B1.out).mono ?_; rintro e w3 ⟨rfl, hw⟩; obtain rfl : w1 = w3 := hw.symm; rw [HAI.out]))
  go_ret
  exact tdone_same HT.out B1.out _
 | some k =>
  rw [ht] at hV
  replace hV : (if tFull t s k = true then (7, t) else (0, t.eraseIdx k)) = V := hV
  rw [HFE.out] at hV
  have HAI : Hid (atI t s = (k : Int)) := Lib.hid (by rw [atI, ht])
  have hkl := tAt_lt ht
  rw [hn] at hkl
  have hkn : ¬ ((k : Int) < 0) := by omega
  have hki : (k : Int) < (n : Int) := by omega
  clear ht hn
  go_enter Tryz.func80, Tryz.ntmps80
  go_wp2_with (first | (go_at_call 131; refine HPL.out.mono ?_; rintro e w1 ⟨rfl, hb⟩; have B1 := Lib.hid hb; clear hb) | (go_at_call 132; refine (HA.out _ B1.out).mono ?_; rintro e w3 ⟨rfl, hw⟩; obtain rfl : w1 = w3 := hw.symm; rw [HAI.out]))
  go_loopw [7] (fun iv wr => ∃ i : Nat, i ≤ n ∧ iv = .int .i64 (i : Int) ∧ Hid (fullU t s k i = false) ∧ Hid (Below w.heap.size w wr)) (fun iv _ => n - (intOf iv).toNat)
  case atStart => exact ⟨0, by omega, rfl, Lib.hid rfl, B1⟩
  case round =>
   obtain ⟨i, hi, rfl, HNo, HB⟩ := hrel
   have q0 := HC.out _ HB.out
   by_cases hlt : i < n
   ·have hlti : (i : Int) < (n : Int) := by omega
    obtain ⟨b, c', hv, hc1, hc2, hb, _, _, k0, _, _⟩ := HN.out i hlt
    cases hv
    have z0 := (HB.out.cell (p := ⟨b, i * 3, none⟩) hb).trans k0
    have hps := HPS.out i hlt
    have HNX := Lib.hid (HFN.out k i)
    by_cases hik : i = k
    ·have HS : Hid (fullU t s k (i + 1) = false) := Lib.hid (by rw [HNX.out, HNo.out, decide_eq_false (by simpa using hik)]; rfl)
     have hb1 : ((i : Int) != (k : Int)) = false := by simp [hik]
     clear HNX hik k0 hps
     go_wp2_with fail
     go_roundw
     case rel => exact ⟨i + 1, by omega, by go_num, HS, HB⟩
     case measure => simp [intOf]; omega
    ·have hb1 : ((i : Int) != (k : Int)) = true := by
      have : (i : Int) ≠ (k : Int) := by omega
      simpa using this
     obtain ⟨u, hu⟩ : ∃ u, (t.getD i nd0).path = u := ⟨_, rfl⟩
     rw [hu] at z0 hps HNX
     have HUu := Lib.hid fun w' => HU.out u w' hps
     obtain ⟨ub, hub⟩ : ∃ ub, underB (bys u) (bys s) = ub := ⟨_, rfl⟩
     rw [hub] at HUu HNX
     rw [decide_eq_true hik, Bool.true_and, HNo.out, Bool.false_or] at HNX
     clear hu hub hik k0 hps
     cases ub with
     | false =>
      go_wp2_with (go_at_call 125; refine (HUu.out _).mono ?_; rintro e w4 ⟨rfl, hb⟩; have B4 := Lib.hid (below_trans HB.out hb); clear hb)
      go_roundw
      case rel => exact ⟨i + 1, by omega, by go_num, HNX, B4⟩
      case measure => simp [intOf]; omega
     | true =>
      have hfu := HFM.out k (i + 1) HNX.out n (by omega)
      rw [if_pos hfu] at hV
      subst hV
      go_wp2_with (go_at_call 125; refine (HUu.out _).mono ?_; rintro e w4 ⟨rfl, hb⟩; have B4 := Lib.hid (below_trans HB.out hb); clear hb)
      go_ret
      exact tdone_same HT.out B4.out _
   ·obtain rfl : i = n := by omega
    rw [if_neg (by rw [HNo.out]; decide)] at hV
    subst hV
    have HDk := Lib.hid (HDr.out _ HB.out k hkl)
    clear HN
    go_wp2_with (go_at_call 133; refine HDk.out.mono ?_; rintro e w5 ⟨rfl, r1, r2⟩; have R1 := Lib.hid r1; have R2 := Lib.hid r2; clear r1 r2)
    go_ret
    exact tdone_from HB.out ⟨rfl, R1.out, R2.out⟩
end fs
namespace fs
set_option maxRecDepth 100000
open Go.ChangeShapes Go.WideShapes Go.ChangeAt Go.RowKit
open rows
open sec
open dsk (wf64 frozen_row setCell_heap grow)
open ly
open pa
open lk
theorem own_cell {w : World} {B : Nat} {e : TypeId} {sz n b c : Nat} {cs : List Value} (h : Own w B e sz (.slice (some ⟨b, 0, none⟩) n c) n cs) (i : Nat) (u : Value) : Own (w.setCell ⟨b, i, none⟩ u) B e sz (.slice (some ⟨b, 0, none⟩) n c) n (cs.set i u) := by
 refine ⟨by rw [List.length_set]; exact h.1, ?_⟩
 rcases h.2 with ⟨h2, _⟩ | ⟨g, cap, cur, h1, h2, h3, h4, h5, h6, h7⟩
 ·cases h2
 ·cases h1
  refine Or.inr ⟨b, c, cur.setIfInBounds i u, rfl, h2, setCell_heap h3 u, h4, h5, by rw [Array.size_setIfInBounds]; exact h6, ?_⟩
  rw [Array.toList_setIfInBounds, List.take_set, h7]
theorem nodesC_cons (a : Nd) (t : List Nd) : nodesC (a :: t) = .string a.path :: .bool a.dir :: .string a.data :: nodesC t := rfl
theorem nodes_setD : ∀ (t : List Nd) (k : Nat) (d : ByteArray), k < t.length → (nodesC t).set (k * 3 + 2) (.string d) = nodesC (t.set k (withD (t.getD k nd0) d))
 | [], k, d, h => by simp at h
 | a :: t, 0, d, h => by rw [nodesC_cons, List.set_cons_zero, nodesC_cons]; rfl
 | a :: t, k + 1, d, h => by
  have ih := nodes_setD t k d (by simpa using h)
  rw [nodesC_cons, show (k + 1) * 3 + 2 = (k * 3 + 2) + 1 + 1 + 1 by omega, List.set_cons_succ, List.set_cons_succ, List.set_cons_succ, ih]
  rfl
def withP (a : Nd) (p : ByteArray) : Nd := ⟨p, a.dir, a.data⟩
theorem nodes_setP : ∀ (t : List Nd) (k : Nat) (d : ByteArray), k < t.length → (nodesC t).set (k * 3) (.string d) = nodesC (t.set k (withP (t.getD k nd0) d))
 | [], k, d, h => by simp at h
 | a :: t, 0, d, h => by rw [nodesC_cons, Nat.zero_mul, List.set_cons_zero]; rfl
 | a :: t, k + 1, d, h => by
  have ih := nodes_setP t k d (by simpa using h)
  rw [nodesC_cons, show (k + 1) * 3 = (k * 3) + 1 + 1 + 1 by omega, List.set_cons_succ, List.set_cons_succ, List.set_cons_succ, ih]
  rfl
theorem tis_setD {w w1 : World} {F : Nat → Prop} {g : Nat} {t : List Nd} {b c : Nat} (h : TAt w F g t (.slice (some ⟨b, 0, none⟩) t.length c)) (hb : Below w.heap.size w w1) {k : Nat} (hk : k < t.length) (d : ByteArray) :
  TIs (w1.setCell ⟨b, k * 3 + 2, none⟩ (.string d)) (grow F w (w1.setCell ⟨b, k * 3 + 2, none⟩ (.string d))) g (t.set k (withD (t.getD k nd0) d)) ∧ dsk.Touch F w (w1.setCell ⟨b, k * 3 + 2, none⟩ (.string d)) := by
 obtain ⟨hF, hne⟩ := h.inS _ _ _ rfl
 have h1 := h.later hb
 refine ⟨⟨_, (Below.heap_setCell _ _ _ _ (show g ≠ b from fun e => hne e.symm)).trans h1.row, ?_, h.inS.mono fun x hx => ⟨Or.inl hx.1, hx.2⟩, Or.inl h.inF⟩, (dsk.Touch.of_below hb).setCell ⟨b, k * 3 + 2, none⟩ hF _⟩
 have := own_cell h1.own (k * 3 + 2) (.string d)
 rw [nodes_setD t k d hk] at this
 rw [List.length_set]
 exact this
theorem TAt.froz {w : World} {F : Nat → Prop} {g : Nat} {t : List Nd} {b n c : Nat} (h : TAt w F g t (.slice (some ⟨b, 0, none⟩) n c)) : ∃ cur, w.heap[b]? = some (.cells cur 67 (0, 0)) := by
 rcases h.own.2 with ⟨h2, _⟩ | ⟨g', cap, cur, h1, h2, h3, _⟩
 ·cases h2
 ·cases h1
  exact ⟨cur, h3⟩
theorem tread_at {t : List Nd} {s : ByteArray} (h : (tRead t s).2 = 0) : ∃ i, tAt t s = some i ∧ (tRead t s).1 = (t.getD i nd0).data := by
 by_cases h0 : (tLook t s).2 = 0
 ·cases hd : (tLook t s).1.dir with
  | true =>
   rw [tRead_dir h0 hd] at h
   exact absurd (show (6 : Int) = 0 from h) (by decide)
  | false =>
   rw [tRead_file h0 hd]
   have hs : ∃ ns, splitL (bys s) = some ns ∧ tLook t s = tWay t ndRoot [] ns := by
    unfold tLook at h0 ⊢
    split at h0
    ·exact absurd h0 (by decide)
    ·rename_i ns hs
     exact ⟨ns, hs, rfl⟩
   obtain ⟨ns, hs, hw⟩ := hs
   obtain ⟨hj, hn, h4, _⟩ := join_split hs
   have hne : ns ≠ [] := fun e => by
    rw [hw, e] at hd
    exact absurd (show true = false from hd) (by decide)
   obtain ⟨i, h1, h2⟩ := way_node t ns [] ndRoot hne (by rw [← hw]; exact h0)
   rw [List.nil_append, hj, strOf_bys] at h1
   exact ⟨i, h1, by rw [hw, h2]⟩
 ·rw [tRead_err h0] at h
  exact absurd h h0
theorem take_extract (d : ByteArray) {z : Nat} (h : z ≤ d.size) : takeS d z = d.extract 0 z := by
 have h1 := bys_extract d 0 z h
 rw [List.drop_zero, Nat.sub_zero] at h1
 rw [takeS, ← h1, strOf_bys]
set_option maxRecDepth 100000 in
set_option maxHeartbeats 6400000 in
theorem rttrunc_is (w : World) (F : Nat → Prop) (g : Nat) (t : List Nd) (v : Value) (h : TAt w F g t v) (hs : TSm t) (s : ByteArray) (hsz : s.size ≤ 100000) (z : Int) (hz : wf64 z) :
  Calls Tryz.prog 78 #[.pointer (some ⟨g, 0, none⟩), .string s, .int .i64 z] w (TDone F g w (tTrunc t s z)) := by
 have HT := Lib.hid h
 have HRD := Lib.hid (rtread_is w F g t v h (by have := hs.len; omega) s hsz)
 have HA := Lib.hid fun w' (hb : Below w.heap.size w w') => rat_is w' F g t v (h.later hb) (by have := hs.len; omega) s
 have HTA := Lib.hid fun hh => tread_at (t := t) (s := s) hh
 obtain ⟨i1, i2⟩ := rows.wf_i64 hz
 obtain ⟨V, hV⟩ : ∃ V, tTrunc t s z = V := ⟨_, rfl⟩
 rw [hV]
 unfold tTrunc at hV
 have hgl := h.lt
 have hl := hs.len
 have HDZ := Lib.hid hs.data
 generalize tRead t s = rd at *
 obtain ⟨d, e2⟩ := rd
 simp only at hV HRD HTA
 clear h hsz hz hs
 by_cases h2 : e2 = 0
 case neg =>
  rw [if_pos h2] at hV
  subst hV
  have hb2 : (e2 != 0) = true := by simpa using h2
  go_enter Tryz.func78, Tryz.ntmps78
  go_wp2_with (go_at_call 81; refine HRD.out.mono ?_; rintro e w1 ⟨rfl, hb⟩; have B1 := Lib.hid hb; clear hb)
  go_ret
  exact tdone_same HT.out B1.out _
 subst h2
 rw [if_neg (by simp)] at hV
 obtain ⟨k, hk, hd⟩ := HTA.out rfl
 have hkl := tAt_lt hk
 have hdz : d.size ≤ 128 := by rw [hd]; exact HDZ.out k hkl
 have hdi : (d.size : Int) ≤ 128 := by omega
 by_cases hz0 : z < 0
 ·rw [if_pos (Or.inl hz0)] at hV
  subst hV
  clear hk hd
  go_enter Tryz.func78, Tryz.ntmps78
  go_wp2_with (go_at_call 81; refine HRD.out.mono ?_; rintro e w1 ⟨rfl, hb⟩; have B1 := Lib.hid hb; clear hb)
  go_ret
  exact tdone_same HT.out B1.out _
 by_cases hz1 : (d.size : Int) < z
 ·rw [if_pos (Or.inr hz1)] at hV
  subst hV
  have hzz : 0 ≤ z := by omega
  clear hk hd
  go_enter Tryz.func78, Tryz.ntmps78
  go_wp2_with (go_at_call 81; refine HRD.out.mono ?_; rintro e w1 ⟨rfl, hb⟩; have B1 := Lib.hid hb; clear hb)
  go_ret
  exact tdone_same HT.out B1.out _
 rw [if_neg (by omega), hk] at hV
 obtain ⟨m, rfl⟩ := Int.eq_ofNat_of_zero_le (show 0 ≤ z by omega)
 have hmd : m ≤ d.size := by omega
 replace hV : (0, t.set k (withD (t.getD k nd0) (takeS d m))) = V := hV
 rw [take_extract d hmd] at hV
 subst hV
 have HAI : Hid (atI t s = (k : Int)) := Lib.hid (by rw [atI, hk])
 obtain ⟨b, c, rfl, hc1, hc2, hbl, hFb, hbg, k0, k1, k2⟩ := HT.out.node hkl
 obtain ⟨cur, hcur⟩ := HT.out.froz
 have ht0 := HT.out.parts.2.1
 have HC := Lib.hid fun w' (hb : Below w.heap.size w w') => (⟨(hb.cell (p := ⟨g, 0, none⟩) hgl).trans ht0, (hb.cell (p := ⟨b, k * 3 + 2, none⟩) hbl).trans k2, (frozen_row ((hb.block b hbl).trans hcur) (k * 3 + 2))⟩ : w'.cell? ⟨g, 0, none⟩ = some (.slice (some ⟨b, 0, none⟩) t.length c) ∧ w'.cell? ⟨b, k * 3 + 2, none⟩ = some (.string (t.getD k nd0).data) ∧ w'.frozen? ⟨b, k * 3 + 2, none⟩ = false)
 have hkn : ¬ ((k : Int) < 0) := by omega
 obtain ⟨n, hn⟩ : ∃ n, t.length = n := ⟨_, rfl⟩
 rw [hn] at HC hc1 hkl hl
 have hki : (k : Int) < (n : Int) := by omega
 have hni : (n : Int) ≤ 100 := by omega
 have hmi : (m : Int) ≤ 128 := by omega
 have hmd2 : (m : Int) ≤ (d.size : Int) := by omega
 have HSZ := Lib.hid hn
 clear hk hd k0 k1 k2 ht0 hcur hn
 go_enter Tryz.func78, Tryz.ntmps78
 go_upto_region 7 with (first | (go_at_call 81; refine HRD.out.mono ?_; rintro e w1 ⟨rfl, hb⟩; have B1 := Lib.hid hb; clear hb) | (go_at_call 132; refine (HA.out _ B1.out).mono ?_; rintro e w3 ⟨rfl, hw⟩; obtain rfl : w1 = w3 := hw.symm; rw [HAI.out]; obtain ⟨q0, q1, q2⟩ := HC.out _ B1.out))
 go_region
 go_wp2_with fail
 go_ret
 have hT2 := HT.out
 obtain ⟨r1, r2⟩ := tis_setD hT2 B1.out.drew (by rw [HSZ.out]; exact hkl) (d.extract 0 m)
 exact ⟨rfl, r1, r2⟩
end fs
namespace fs
set_option maxRecDepth 100000
open Go.ChangeShapes Go.WideShapes Go.ChangeAt Go.RowKit
open rows
open sec
open dsk (wf64 frozen_row)
open ly
open pa
open lk
theorem app_str (x y : ByteArray) : x ++ y = strOfNums (bys x ++ bys y) := by
 have := str_app (bys x) (bys y)
 rw [strOf_bys, strOf_bys] at this
 exact this
theorem size_app (x y : ByteArray) : (x ++ y).size = x.size + y.size := by simp
theorem bys_app (x y : ByteArray) : bys (x ++ y) = bys x ++ bys y := by
 rw [app_str]
 exact bys_strOf fun z hz => by
  rcases List.mem_append.1 hz with hz | hz
  ·exact bys_bytes x z hz
  ·exact bys_bytes y z hz
theorem bys_take (d : ByteArray) {o : Nat} (h : o ≤ d.size) : bys (d.extract 0 o) = (bys d).take o := by
 have h1 := bys_extract d 0 o h
 rwa [List.drop_zero, Nat.sub_zero] at h1
theorem bys_drop (d : ByteArray) (o : Nat) : bys (d.extract o d.size) = (bys d).drop o := by
 rw [bys_extract d o d.size (Nat.le_refl _), List.take_of_length_le (by rw [List.length_drop, bys_len]; omega)]
theorem size_take (d : ByteArray) {o : Nat} (h : o ≤ d.size) : (d.extract 0 o).size = o := by
 rw [← bys_len, bys_take d h, List.length_take, bys_len]; omega
theorem fresh_long {d b : ByteArray} {o : Nat} (h : o ≤ d.size) (h2 : d.size ≤ o + b.size) : d.extract 0 o ++ b = freshS d o b := by
 rw [app_str, bys_take d h, freshS, freshL, bys_len, List.drop_of_length_le (by rw [bys_len]; exact h2), List.append_nil]
theorem fresh_short {d b : ByteArray} {o : Nat} (h : o ≤ d.size) : (d.extract 0 o ++ b) ++ d.extract (o + b.size) d.size = freshS d o b := by
 rw [app_str, bys_app, bys_take d h, bys_drop, freshS, freshL, bys_len]
theorem freshS_size {d b : ByteArray} {o : Nat} (h : o ≤ d.size) : (freshS d o b).size = max d.size (o + b.size) := by
 rw [← bys_len, bys_freshS, fresh_len _ (by rw [bys_len]; exact h), bys_len, bys_len]
set_option maxRecDepth 100000 in
set_option maxHeartbeats 6400000 in
theorem rtwrite_is (w : World) (F : Nat → Prop) (g : Nat) (t : List Nd) (v : Value) (h : TAt w F g t v) (hs : TSm t) (s : ByteArray) (hsz : s.size ≤ 100000) (z : Int) (hz : wf64 z) (x : ByteArray) (hx : x.size ≤ 1000) :
  Calls Tryz.prog 76 #[.pointer (some ⟨g, 0, none⟩), .string s, .int .i64 z, .string x] w (TDone F g w (tWrite t s z x)) := by
 have HT := Lib.hid h
 have HRD := Lib.hid (rtread_is w F g t v h (by have := hs.len; omega) s hsz)
 have HA := Lib.hid fun w' (hb : Below w.heap.size w w') => rat_is w' F g t v (h.later hb) (by have := hs.len; omega) s
 have HBL := Lib.hid fun w' (hb : Below w.heap.size w w') => rtblocks_is w' F g t v (h.later hb) hs
 have HTA := Lib.hid fun hh => tread_at (t := t) (s := s) hh
 have HNE := Lib.hid fun q w' hq => need_any q w' hq
 have hbk : tBlocks t ≤ 400 := by have h1 := sumB_le t (tsm_mem hs); have := hs.len; omega
 obtain ⟨i1, i2⟩ := rows.wf_i64 hz
 obtain ⟨V, hV⟩ : ∃ V, tWrite t s z x = V := ⟨_, rfl⟩
 rw [hV]
 unfold tWrite at hV
 have hgl := h.lt
 have hl := hs.len
 have HDZ := Lib.hid hs.data
 generalize tRead t s = rd at *
 obtain ⟨d, e2⟩ := rd
 simp only at hV HRD HTA
 clear h hsz hz hs
 have hxi : (x.size : Int) ≤ 1000 := by omega
 by_cases h2 : e2 = 0
 case neg =>
  rw [if_pos h2] at hV
  subst hV
  have hb2 : (e2 != 0) = true := by simpa using h2
  go_enter Tryz.func76, Tryz.ntmps76
  go_wp2_with (go_at_call 81; refine HRD.out.mono ?_; rintro e w1 ⟨rfl, hb⟩; have B1 := Lib.hid hb; clear hb)
  go_ret
  exact tdone_same HT.out B1.out _
 subst h2
 rw [if_neg (by simp)] at hV
 obtain ⟨k, hk, hd⟩ := HTA.out rfl
 have hkl := tAt_lt hk
 have hdz : d.size ≤ 128 := by rw [hd]; exact HDZ.out k hkl
 have hdi : (d.size : Int) ≤ 128 := by omega
 clear hd HDZ HTA
 go_enter Tryz.func76, Tryz.ntmps76
 go_upto_region 4 with (go_at_call 81; refine HRD.out.mono ?_; rintro e w1 ⟨rfl, hb⟩; have B1 := Lib.hid hb; clear hb)
 by_cases hz0 : z < 0
 ·rw [if_pos (Or.inl hz0)] at hV
  subst hV
  go_wp2_with fail
  go_ret
  exact tdone_same HT.out B1.out _
 by_cases hz1 : (d.size : Int) < z
 ·rw [if_pos (Or.inr hz1)] at hV
  subst hV
  have hzz : 0 ≤ z := by omega
  go_wp2_with fail
  go_ret
  exact tdone_same HT.out B1.out _
 rw [if_neg (by omega)] at hV
 obtain ⟨o, rfl⟩ := Int.eq_ofNat_of_zero_le (show 0 ≤ z by omega)
 have hod : o ≤ d.size := by omega
 have hoi : (o : Int) ≤ 128 := by omega
 have hodi : (o : Int) ≤ (d.size : Int) := by omega
 rw [Int.toNat_natCast] at hV
 go_upto_region 6 with fail
 by_cases hr : 128 - (o : Int) < (x.size : Int)
 ·rw [if_pos hr] at hV
  subst hV
  go_wp2_with fail
  go_ret
  exact tdone_same HT.out B1.out _
 rw [if_neg hr] at hV
 have hox : o + x.size ≤ 128 := by omega
 have hlong := fun hh => fresh_long (d := d) (b := x) hod hh
 have hshort := fresh_short (d := d) (b := x) hod
 have hfz := freshS_size (d := d) (b := x) hod
 have hsa := size_app (d.extract 0 o) x
 rw [size_take d hod] at hsa
 go_upto_region 9 with fail
 generalize d.extract 0 o ++ x = f1 at *
 rw [← hsa] at hshort hfz
 have hf1 : f1.size ≤ 128 := by omega
 have hf1i : (f1.size : Int) ≤ 128 := by omega
 have HSA := Lib.hid hsa
 clear hsa
 have HAI : Hid (atI t s = (k : Int)) := Lib.hid (by rw [atI, hk])
 rw [hk] at hV
 replace hV : (if 24 < (tBlocks t : Int) - (need d.size : Nat) + (need (freshS d o x).size : Nat) then (2, t) else (0, t.set k (withD (t.getD k nd0) (freshS d o x)))) = V := hV
 obtain ⟨b, c, rfl, hc1, hc2, hbl, hFb, hbg, k0, k1, k2⟩ := HT.out.node hkl
 obtain ⟨cur, hcur⟩ := HT.out.froz
 have ht0 := HT.out.parts.2.1
 have HC := Lib.hid fun w' (hb : Below w.heap.size w w') => (⟨(hb.cell (p := ⟨g, 0, none⟩) hgl).trans ht0, (hb.cell (p := ⟨b, k * 3 + 2, none⟩) hbl).trans k2, (frozen_row ((hb.block b hbl).trans hcur) (k * 3 + 2))⟩ : w'.cell? ⟨g, 0, none⟩ = some (.slice (some ⟨b, 0, none⟩) t.length c) ∧ w'.cell? ⟨b, k * 3 + 2, none⟩ = some (.string (t.getD k nd0).data) ∧ w'.frozen? ⟨b, k * 3 + 2, none⟩ = false)
 have hkn : ¬ ((k : Int) < 0) := by omega
 obtain ⟨n, hn⟩ : ∃ n, t.length = n := ⟨_, rfl⟩
 rw [hn] at HC hc1 hkl hl
 have hki : (k : Int) < (n : Int) := by omega
 have hni : (n : Int) ≤ 100 := by omega
 have HSZ := Lib.hid hn
 obtain ⟨bk, hbkE⟩ : ∃ bk, tBlocks t = bk := ⟨_, rfl⟩
 rw [hbkE] at hbk hV HBL
 have hbki : (bk : Int) ≤ 400 := by omega
 clear hk k0 k1 k2 ht0 hcur hn hbkE HRD
 by_cases hsh : f1.size < d.size
 ·have hshi : (f1.size : Int) < (d.size : Int) := by omega
  go_upto_region 11 with fail
  generalize hfs : freshS d o x = fr at *
  have hfr : fr.size ≤ 128 := by omega
  have hfri : (fr.size : Int) ≤ 128 := by omega
  have HN1 := Lib.hid fun w' => HNE.out d.size w' hdz
  have HN2 := Lib.hid fun w' => HNE.out fr.size w' hfr
  have hq1 := need_le hdz
  have hq2 := need_le hfr
  generalize need d.size = m1 at *
  generalize need fr.size = m2 at *
  have hm1i : (m1 : Int) ≤ 4 := by omega
  have hm2i : (m2 : Int) ≤ 4 := by omega
  clear hshort hlong hfz hfs
  by_cases hfull : 24 < (bk : Int) - (m1 : Int) + (m2 : Int)
  ·rw [if_pos hfull] at hV
   subst hV
   go_wp2_with (first | (go_at_call 32; refine (HBL.out _ B1.out).mono ?_; rintro e w5 ⟨rfl, hw⟩; obtain rfl : w1 = w5 := hw.symm) | (go_at_call 57; with_reducible refine (HN1.out _).mono ?_; rintro e w5 ⟨rfl, hw⟩; obtain rfl : w1 = w5 := hw) | (go_at_call 57; refine (HN2.out _).mono ?_; rintro e w5 ⟨rfl, hw⟩; obtain rfl : w1 = w5 := hw))
   go_ret
   exact tdone_same HT.out B1.out _
  ·rw [if_neg hfull] at hV
   subst hV
   go_wp2_with (first | (go_at_call 32; refine (HBL.out _ B1.out).mono ?_; rintro e w5 ⟨rfl, hw⟩; obtain rfl : w1 = w5 := hw.symm) | (go_at_call 57; with_reducible refine (HN1.out _).mono ?_; rintro e w5 ⟨rfl, hw⟩; obtain rfl : w1 = w5 := hw) | (go_at_call 57; refine (HN2.out _).mono ?_; rintro e w5 ⟨rfl, hw⟩; obtain rfl : w1 = w5 := hw) | (go_at_call 132; refine (HA.out _ B1.out).mono ?_; rintro e w3 ⟨rfl, hw⟩; obtain rfl : w1 = w3 := hw.symm; rw [HAI.out]; obtain ⟨q0, q1, q2⟩ := HC.out _ B1.out))
   go_ret
   obtain ⟨r1, r2⟩ := tis_setD HT.out B1.out (by rw [HSZ.out]; exact hkl) fr
   exact ⟨rfl, r1, r2⟩
 ·have hshi : ¬ ((f1.size : Int) < (d.size : Int)) := by omega
  have hlg := hlong (by rw [← HSA.out]; omega)
  rw [← hlg] at hV
  have HN1 := Lib.hid fun w' => HNE.out d.size w' hdz
  have HN2 := Lib.hid fun w' => HNE.out f1.size w' hf1
  have hq1 := need_le hdz
  have hq2 := need_le hf1
  generalize need d.size = m1 at *
  generalize need f1.size = m2 at *
  have hm1i : (m1 : Int) ≤ 4 := by omega
  have hm2i : (m2 : Int) ≤ 4 := by omega
  clear hshort hlong hfz hlg
  by_cases hfull : 24 < (bk : Int) - (m1 : Int) + (m2 : Int)
  ·rw [if_pos hfull] at hV
   subst hV
   go_wp2_with (first | (go_at_call 32; refine (HBL.out _ B1.out).mono ?_; rintro e w5 ⟨rfl, hw⟩; obtain rfl : w1 = w5 := hw.symm) | (go_at_call 57; with_reducible refine (HN1.out _).mono ?_; rintro e w5 ⟨rfl, hw⟩; obtain rfl : w1 = w5 := hw) | (go_at_call 57; refine (HN2.out _).mono ?_; rintro e w5 ⟨rfl, hw⟩; obtain rfl : w1 = w5 := hw))
   go_ret
   exact tdone_same HT.out B1.out _
  ·rw [if_neg hfull] at hV
   subst hV
   go_wp2_with (first | (go_at_call 32; refine (HBL.out _ B1.out).mono ?_; rintro e w5 ⟨rfl, hw⟩; obtain rfl : w1 = w5 := hw.symm) | (go_at_call 57; with_reducible refine (HN1.out _).mono ?_; rintro e w5 ⟨rfl, hw⟩; obtain rfl : w1 = w5 := hw) | (go_at_call 57; refine (HN2.out _).mono ?_; rintro e w5 ⟨rfl, hw⟩; obtain rfl : w1 = w5 := hw) | (go_at_call 132; refine (HA.out _ B1.out).mono ?_; rintro e w3 ⟨rfl, hw⟩; obtain rfl : w1 = w3 := hw.symm; rw [HAI.out]; obtain ⟨q0, q1, q2⟩ := HC.out _ B1.out))
   go_ret
   obtain ⟨r1, r2⟩ := tis_setD HT.out B1.out (by rw [HSZ.out]; exact hkl) f1
   exact ⟨rfl, r1, r2⟩
set_option maxRecDepth 100000 in
set_option maxHeartbeats 1600000 in
theorem rtappend_is (w : World) (F : Nat → Prop) (g : Nat) (t : List Nd) (v : Value) (h : TAt w F g t v) (hs : TSm t) (s : ByteArray) (hsz : s.size ≤ 100000) (x : ByteArray) (hx : x.size ≤ 1000) :
  Calls Tryz.prog 77 #[.pointer (some ⟨g, 0, none⟩), .string s, .string x] w (TDone F g w (tAppend t s x)) := by
 have HT := Lib.hid h
 have HRD := Lib.hid (rtread_is w F g t v h (by have := hs.len; omega) s hsz)
 have HTA := Lib.hid fun hh => tread_at (t := t) (s := s) hh
 have HW := Lib.hid fun w' (hb : Below w.heap.size w w') z hz => rtwrite_is w' F g t v (h.later hb) hs s hsz z hz x hx
 have HDZ := Lib.hid hs.data
 obtain ⟨V, hV⟩ : ∃ V, tAppend t s x = V := ⟨_, rfl⟩
 rw [hV]
 unfold tAppend at hV
 generalize tRead t s = rd at *
 obtain ⟨d, e2⟩ := rd
 simp only at hV HRD HTA
 clear h hsz hs
 by_cases h2 : e2 = 0
 case neg =>
  rw [if_pos h2] at hV
  subst hV
  have hb2 : (e2 != 0) = true := by simpa using h2
  go_enter Tryz.func77, Tryz.ntmps77
  go_wp2_with (go_at_call 81; refine HRD.out.mono ?_; rintro e w1 ⟨rfl, hb⟩; have B1 := Lib.hid hb; clear hb)
  go_ret
  exact tdone_same HT.out B1.out _
 subst h2
 rw [if_neg (by simp)] at hV
 obtain ⟨k, hk, hd⟩ := HTA.out rfl
 have hdz : d.size ≤ 128 := by rw [hd]; exact HDZ.out k (tAt_lt hk)
 have HWd := Lib.hid fun w' hb => HW.out w' hb (d.size : Int) (WalkArith.wf_i64 (by omega))
 rw [hV] at HWd
 clear hV hk hd HDZ HTA
 go_enter Tryz.func77, Tryz.ntmps77
 go_wp2_with (first | (go_at_call 81; refine HRD.out.mono ?_; rintro e w1 ⟨rfl, hb⟩; have B1 := Lib.hid hb; clear hb) | (go_at_call 76; refine (HWd.out _ B1.out).mono ?_; rintro e w2 hd; have D2 := Lib.hid (tdone_from B1.out hd); obtain ⟨rfl, _⟩ := hd))
 go_ret
 exact D2.out
end fs
namespace fs
set_option maxRecDepth 100000
open Go.ChangeShapes Go.WideShapes Go.ChangeAt Go.RowKit
open rows
open sec
open dsk (frozen_row grow)
open ly
open pa
open lk
theorem tat_setP {w : World} {F : Nat → Prop} {g : Nat} {t : List Nd} {b c n : Nat} (h : TAt w F g t (.slice (some ⟨b, 0, none⟩) n c)) (hn : t.length = n) {k : Nat} (hk : k < n) (d : ByteArray) :
  TAt (w.setCell ⟨b, k * 3, none⟩ (.string d)) F g (t.set k (withP (t.getD k nd0) d)) (.slice (some ⟨b, 0, none⟩) n c) ∧ F b := by
 subst hn
 obtain ⟨hF, hne⟩ := h.inS _ _ _ rfl
 refine ⟨⟨(Below.heap_setCell _ _ _ _ (show g ≠ b from fun e => hne e.symm)).trans h.row, ?_, h.inS, h.inF⟩, hF⟩
 have := own_cell h.own (k * 3) (.string d)
 rw [nodes_setP t k d hk] at this
 rw [List.length_set]
 exact this
def mvU (f u : ByteArray) (t : List Nd) (i : Nat) : List Nd := (t.take i).map (mvN f u) ++ t.drop i
theorem mvU_all (f u : ByteArray) (t : List Nd) : mvU f u t t.length = t.map (mvN f u) := by simp [mvU]
theorem mvU_len (f u : ByteArray) (t : List Nd) {i : Nat} (h : i ≤ t.length) : (mvU f u t i).length = t.length := by simp [mvU]; omega
theorem mvU_at (f u : ByteArray) (t : List Nd) {i : Nat} (h : i < t.length) : (mvU f u t i).getD i nd0 = t.getD i nd0 := by
 have hl : ((t.take i).map (mvN f u)).length = i := by simp; omega
 rw [mvU, List.getD, List.getElem?_append_right (by omega), hl, Nat.sub_self, List.getElem?_drop, Nat.add_zero]
 rfl
theorem mvU_next (f u : ByteArray) (t : List Nd) {i : Nat} (h : i < t.length) : mvU f u t (i + 1) = (mvU f u t i).set i (mvN f u (t.getD i nd0)) := by
 have hl : ((t.take i).map (mvN f u)).length = i := by simp; omega
 rw [mvU, mvU, List.set_append_right _ _ (by omega), hl, Nat.sub_self, List.drop_eq_getElem_cons h, List.set_cons_zero, take_one h, List.map_append]
 simp [List.getD, h]
theorem mvN_yes {f u : ByteArray} {a : Nd} (h : underB (bys a.path) (bys f) = true) : mvN f u a = withP a (strOfNums (bys u ++ (bys a.path).drop f.size)) := by rw [mvN, if_pos h]; rfl
theorem mvN_no {f u : ByteArray} {a : Nd} (h : underB (bys a.path) (bys f) = false) : mvN f u a = a := by rw [mvN, if_neg (by rw [h]; decide)]
theorem set_at {t : List Nd} {i : Nat} (h : i < t.length) {a : Nd} (ha : t.getD i nd0 = a) : t.set i a = t := by rw [← ha, set_same h]
theorem under_size {a f : ByteArray} (h : underB (bys a) (bys f) = true) : f.size ≤ a.size := by
 unfold underB at h
 split at h
 ·rename_i x y hx hy
  rw [Bool.and_eq_true, decide_eq_true_eq, decide_eq_true_eq] at h
  obtain ⟨jx, _, _, _⟩ := join_split hx
  obtain ⟨jy, _, _, _⟩ := join_split hy
  have e : x = y ++ x.drop y.length := by
   have := List.take_append_drop y.length x
   rw [h.2] at this
   exact this.symm
  rw [← bys_len, ← bys_len, ← jx, ← jy]
  by_cases hy0 : y = []
  ·rw [hy0]
   unfold joinP
   rw [if_pos rfl]
   split
   ·exact Nat.le_refl _
   ·rename_i h0
    obtain ⟨z, r, rfl⟩ := List.exists_cons_of_ne_nil h0
    rw [joinL_cons]; simp
  ·rw [e, joinP_app hy0, List.length_append]; omega
 ·cases h
theorem path_val (u a : ByteArray) (k : Nat) : u ++ a.extract k a.size = strOfNums (bys u ++ (bys a).drop k) := by rw [app_str, bys_drop]
structure MvAt (w : World) (F : Nat → Prop) (g : Nat) (f u : ByteArray) (t : List Nd) (v : Value) (i : Nat) (wr : World) : Prop where
 tree : TAt wr F g (mvU f u t i) v
 touch : dsk.Touch F w wr
theorem tis_touch {w w5 w6 : World} {F F5 : Nat → Prop} {g : Nat} {t : List Nd} (hF : F5 = grow F w w5) (h5 : dsk.Touch F w w5) (ht : TIs w6 F5 g t) (h6 : dsk.Touch F5 w5 w6) : TIs w6 (grow F w w6) g t ∧ dsk.Touch F w w6 := by
 subst hF
 refine ⟨tis_mono ht fun b hb => ?_, h5.trans' h6 fun b hb => ?_⟩
 ·rcases hb with hb | hb
  ·exact Or.inl hb
  ·exact Or.inr ⟨hb.1, Nat.lt_of_lt_of_le hb.2 h6.size⟩
 ·rcases hb with hb | hb
  ·exact Or.inl hb
  ·exact Or.inr hb.1
theorem tat_growA {w w1 : World} {F : Nat → Prop} {g : Nat} {t : List Nd} {v : Value} (h : TAt w F g t v) (hb : Below w.heap.size w w1) : TAt w1 (grow F w w1) g t v :=
 ⟨(h.later hb).row, (h.later hb).own, h.inS.mono fun b hb => ⟨Or.inl hb.1, hb.2⟩, Or.inl h.inF⟩
set_option maxRecDepth 100000 in
set_option maxHeartbeats 16000000 in
theorem rtrename_is (w : World) (F : Nat → Prop) (g : Nat) (t : List Nd) (v : Value) (h : TAt w F g t v) (hs : TSm t) (s u : ByteArray) (hsz : s.size ≤ 1000) (huz : u.size ≤ 1000) (HDE : ∀ w', Calls Tryz.prog 62 #[.string s, .string u] w' fun e w'' => e = .returned (.bool (deeperB s u)) ∧ Below w'.heap.size w' w'') :
  Calls Tryz.prog 79 #[.pointer (some ⟨g, 0, none⟩), .string s, .string u] w (TDone F g w (tRename t s u)) := by
 have HT := Lib.hid h
 have HPS0 := Lib.hid hs.path
 have hl := hs.len
 have HPP := Lib.hid fun (x : ByteArray) w' hx => rparent_is x w' hx
 have HPL := Lib.hid fun x w' (hb : Below w.heap.size w w') hx => rtplace_is w' F g t v (h.later hb) (by omega) x hx
 have HA := Lib.hid fun x w' (hb : Below w.heap.size w w') => rat_is w' F g t v (h.later hb) (by omega) x
 have HDr := Lib.hid fun w' (hb : Below w.heap.size w w') j hj => rtdrop_is w' F g t v (h.later hb) hs.len j hj
 have HU := Lib.hid fun (x : ByteArray) w' (hx : x.size ≤ 1000) => runder_is x s w' (by omega) (by omega)
 have HDE := Lib.hid HDE
 have hsi : (s.size : Int) ≤ 1000 := by omega
 have hui : (u.size : Int) ≤ 1000 := by omega
 have hse := str_eqB s u
 obtain ⟨V, hV⟩ : ∃ V, tRename t s u = V := ⟨_, rfl⟩
 rw [hV]
 unfold tRename at hV
 clear h hs
 have HP1 := Lib.hid fun w' => HPP.out s w' (by omega)
 have HP2 := Lib.hid fun w' => HPP.out u w' (by omega)
 have HL1 := Lib.hid fun w' hb => HPL.out s w' hb (by omega)
 have HL2 := Lib.hid fun w' hb => HPL.out u w' hb (by omega)
 clear HPP HPL
 generalize errP (bys s) = p1 at *
 generalize errP (bys u) = p2 at *
 generalize tPlace t s = e1 at *
 generalize tPlace t u = e2 at *
 generalize deeperB s u = de at *
 go_enter Tryz.func79, Tryz.ntmps79
 go_upto_region 2 with (go_at_call 59; with_reducible refine (HP1.out _).mono ?_; rintro e w1 ⟨rfl, hb⟩; have B1 := Lib.hid hb; clear hb)
 by_cases h1 : p1 = 0
 case neg =>
  rw [if_pos h1] at hV
  subst hV
  have hb1 : (p1 != 0) = true := by simpa using h1
  go_wp2_with fail
  go_ret
  exact tdone_same HT.out B1.out _
 subst h1
 rw [if_neg (by simp)] at hV
 go_upto_region 5 with (go_at_call 59; with_reducible refine (HP2.out _).mono ?_; rintro e w2 ⟨rfl, hb⟩; have B2 := Lib.hid (below_trans B1.out hb); clear hb)
 by_cases h2 : p2 = 0
 case neg =>
  rw [if_pos h2] at hV
  subst hV
  have hb2 : (p2 != 0) = true := by simpa using h2
  go_wp2_with fail
  go_ret
  exact tdone_same HT.out B2.out _
 subst h2
 rw [if_neg (by simp)] at hV
 go_upto_region 8 with (go_at_call 131; with_reducible refine (HL1.out _ B2.out).mono ?_; rintro e w3 ⟨rfl, hb⟩; have B3 := Lib.hid (below_trans B2.out hb); clear hb)
 by_cases h3 : e1 = 0
 case neg =>
  rw [if_pos h3] at hV
  subst hV
  have hb3 : (e1 != 0) = true := by simpa using h3
  go_wp2_with fail
  go_ret
  exact tdone_same HT.out B3.out _
 subst h3
 rw [if_neg (by simp)] at hV
 cases ht : tAt t s with
 | none =>
  rw [ht] at hV
  replace hV : (4, t) = V := hV
  subst hV
  have HAI : Hid (atI t s = -1) := Lib.hid (by rw [atI, ht])
  clear ht
  go_wp2_with (go_at_call 132; refine (HA.out _ _ B3.out).mono ?_; rintro e w4 ⟨rfl, hw⟩; obtain rfl : w3 = w4 := hw.symm; rw [HAI.out])
  go_ret
  exact tdone_same HT.out B3.out _
 | some k =>
  rw [ht] at hV
  simp only at hV
  have HAI : Hid (atI t s = (k : Int)) := Lib.hid (by rw [atI, ht])
  have hkl := tAt_lt ht
  have hkn : ¬ ((k : Int) < 0) := by omega
  clear ht
  go_upto_region 14 with (first | (go_at_call 132; refine (HA.out _ _ B3.out).mono ?_; rintro e w4 ⟨rfl, hw⟩; obtain rfl : w3 = w4 := hw.symm; rw [HAI.out]) | (go_at_call 131; with_reducible refine (HL2.out _ B3.out).mono ?_; rintro e w5 ⟨rfl, hb⟩; have B5 := Lib.hid (below_trans B3.out hb); clear hb))
  by_cases h4 : e2 = 0
  case neg =>
   rw [if_pos h4] at hV
   subst hV
   have hb4 : (e2 != 0) = true := by simpa using h4
   go_wp2_with fail
   go_ret
   exact tdone_same HT.out B5.out _
  subst h4
  rw [if_neg (by simp)] at hV
  by_cases hsu : s = u
  ·rw [if_pos hsu] at hV
   subst hV
   rw [decide_eq_true hsu] at hse
   clear hsu
   go_wp2_with fail
   go_ret
   exact tdone_same HT.out B5.out _
  rw [if_neg hsu] at hV
  rw [decide_eq_false hsu] at hse
  obtain ⟨b, c, rfl, hc1, hc2, hbl, hFb, hbg, k0, k1, k2⟩ := HT.out.node hkl
  have hgl := HT.out.lt
  have ht0 := HT.out.parts.2.1
  have q0 := (B5.out.cell (p := ⟨g, 0, none⟩) hgl).trans ht0
  have q1 := (B5.out.cell (p := ⟨b, k * 3 + 1, none⟩) hbl).trans k1
  have HN := Lib.hid fun i hi => HT.out.node (i := i) hi
  obtain ⟨n, hn⟩ : ∃ n, t.length = n := ⟨_, rfl⟩
  rw [hn] at q0 hkl hl hc1 HN HDr
  have hki : (k : Int) < (n : Int) := by omega
  have hni : (n : Int) ≤ 100 := by omega
  obtain ⟨dr, hdr⟩ : ∃ dr, (t.getD k nd0).dir = dr := ⟨_, rfl⟩
  rw [hdr] at q1 hV
  have HSZ := Lib.hid hn
  clear hsu ht0 k0 k1 k2 hdr hn
  go_upto_region 19 with fail
  by_cases hdd : dr = true ∧ de = true
  ·obtain ⟨rfl, rfl⟩ := hdd
   rw [if_pos ⟨rfl, rfl⟩] at hV
   subst hV
   go_wp2_with (go_at_call 62; refine (HDE.out _).mono ?_; rintro e w6 ⟨rfl, hb⟩; have B6 := Lib.hid (below_trans B5.out hb); clear hb)
   go_ret
   exact tdone_same HT.out B6.out _
  rw [if_neg hdd] at hV
  cases dr with
  | true =>
   have hde : de = false := by
    cases de with
    | false => rfl
    | true => exact absurd ⟨rfl, rfl⟩ hdd
   subst hde
   clear hdd
   go_upto_region 21 with (go_at_call 62; refine (HDE.out _).mono ?_; rintro e w6 ⟨rfl, hb⟩; have B6 := Lib.hid (below_trans B5.out hb); clear hb)
   cases ht : tAt t u with
   | some j =>
    rw [ht] at hV
    simp only [true_or, if_true] at hV
    subst hV
    have HAJ : Hid (atI t u = (j : Int)) := Lib.hid (by rw [atI, ht])
    have hj0 : (0 : Int) ≤ (j : Int) := by omega
    clear ht q0 q1
    go_wp2_with (go_at_call 132; refine (HA.out _ _ B6.out).mono ?_; rintro e wA ⟨rfl, hw⟩; obtain rfl : w6 = wA := hw.symm; rw [HAJ.out])
    go_ret
    exact tdone_same HT.out B6.out _
   | none =>
    rw [ht] at hV
    simp only at hV
    subst hV
    have HAJ : Hid (atI t u = -1) := Lib.hid (by rw [atI, ht])
    clear ht
    go_wp2_with (go_at_call 132; refine (HA.out _ _ B6.out).mono ?_; rintro e wA ⟨rfl, hw⟩; obtain rfl : w6 = wA := hw.symm; rw [HAJ.out])
    have T5 := Lib.hid (tat_growA HT.out B6.out)
    have H5 : Hid (dsk.Touch F w w6) := Lib.hid (dsk.Touch.of_below B6.out)
    have HS5 := HSZ
    have HP5 := HPS0
    rw [HSZ.out] at T5
    go_loopw [18] (fun iv wr => ∃ i : Nat, i ≤ n ∧ iv = .int .i64 (i : Int) ∧ Hid (MvAt w6 (grow F w w6) g s u t (.slice (some ⟨b, 0, none⟩) n c) i wr)) (fun iv _ => n - (intOf iv).toNat)
    case atStart => exact ⟨0, by omega, rfl, Lib.hid ⟨T5.out, dsk.Touch.refl _ _⟩⟩
    case round =>
     obtain ⟨i, hi, rfl, HM⟩ := hrel
     have q0 := HM.out.tree.parts.2.1
     by_cases hlt : i < n
     ·have hlti : (i : Int) < (n : Int) := by omega
      have hil : i < (t).length := by rw [HS5.out]; exact hlt
      have hml : (mvU s u t i).length = n := by rw [mvU_len s u t (by omega)]; exact HS5.out
      obtain ⟨bb, c', hv, hc1', hc2', hb, _, _, k0, _, _⟩ := HM.out.tree.node (i := i) (by rw [hml]; exact hlt)
      rw [hml] at hv
      cases hv
      obtain ⟨cur, hcur⟩ := HM.out.tree.froz
      have hat := mvU_at s u t hil
      have hnx := mvU_next s u t hil
      have hps := HP5.out i hil
      rw [hat] at k0
      obtain ⟨y, hy⟩ : ∃ y, (t).getD i nd0 = y := ⟨_, rfl⟩
      rw [hy] at k0 hps hnx hat
      obtain ⟨pt, hpt⟩ : ∃ pt, y.path = pt := ⟨_, rfl⟩
      rw [hpt] at k0 hps
      have HUi := Lib.hid fun w' => HU.out pt w' hps
      have HAT := Lib.hid hat
      have HML := Lib.hid hml
      have hgl' := HM.out.tree.lt
      have HC := Lib.hid fun w' (hb' : Below wr.heap.size wr w') => (⟨(hb'.cell (p := ⟨g, 0, none⟩) hgl').trans q0, (hb'.cell (p := ⟨b, i * 3, none⟩) hb).trans k0, frozen_row ((hb'.block b hb).trans hcur) (i * 3)⟩ : w'.cell? ⟨g, 0, none⟩ = some (.slice (some ⟨b, 0, none⟩) n _) ∧ w'.cell? ⟨b, i * 3, none⟩ = some (.string pt) ∧ w'.frozen? ⟨b, i * 3, none⟩ = false)
      cases hub : underB (bys pt) (bys s) with
      | false =>
       rw [hub] at HUi
       have HNX : Hid (mvU s u t (i + 1) = mvU s u t i) := Lib.hid (by rw [hnx, mvN_no (by rw [hpt]; exact hub)]; exact set_at (by rw [hml]; exact hlt) hat)
       clear hub hnx hat hml hy hcur hil hgl' hpt hps
       go_wp2_with (go_at_call 125; refine (HUi.out _).mono ?_; rintro e w9 ⟨rfl, hb'⟩; have B9 := Lib.hid hb'; clear hb')
       go_roundw
       case rel => exact ⟨i + 1, by omega, by go_num, Lib.hid ⟨by rw [HNX.out]; exact HM.out.tree.later B9.out, HM.out.touch.trans (dsk.Touch.of_below B9.out)⟩⟩
       case measure => simp [intOf]; omega
      | true =>
       rw [hub] at HUi
       have hus := under_size hub
       have HNX : Hid (mvU s u t (i + 1) = (mvU s u t i).set i (withP y (u ++ pt.extract s.size pt.size))) := Lib.hid (by rw [hnx, mvN_yes (by rw [hpt]; exact hub), path_val, hpt])
       have hxs : (pt.extract s.size pt.size).size ≤ 1000 := by rw [← bys_len, bys_drop, List.length_drop, bys_len]; omega
       have hxi : ((pt.extract s.size pt.size).size : Int) ≤ 1000 := by omega
       have husi : (s.size : Int) ≤ (pt.size : Int) := by omega
       have hpsi : (pt.size : Int) ≤ 1000 := by omega
       clear hub hnx hat hml hy hcur hil hgl' hpt
       go_upto_region 30 with (go_at_call 125; refine (HUi.out _).mono ?_; rintro e w9 ⟨rfl, hb'⟩; have B9 := Lib.hid hb'; clear hb')
       clear q0 k0
       obtain ⟨q0, q1', q2'⟩ := HC.out _ B9.out
       go_region
       go_wp2_with fail
       go_roundw
       case rel => exact ⟨i + 1, by omega, by go_num, Lib.hid (by
        have h6 := HM.out.tree.later B9.out.drew
        obtain ⟨r1, r2⟩ := tat_setP h6 HML.out hlt (u ++ pt.extract s.size pt.size)
        rw [HAT.out] at r1
        exact ⟨by rw [HNX.out]; exact r1, (HM.out.touch.trans (dsk.Touch.of_below B9.out.drew)).setCell ⟨b, i * 3, none⟩ r2 _⟩)⟩
       case measure => simp [intOf]; omega
     ·obtain rfl : i = n := by omega
      go_wp2_with fail
      go_ret
      have hT := HM.out.tree
      have e : mvU s u t i = (t).map (mvN s u) := by rw [← HS5.out]; exact mvU_all s u t
      rw [e] at hT
      obtain ⟨r1, r2⟩ := tis_touch rfl H5.out ⟨_, hT⟩ HM.out.touch
      exact ⟨rfl, r1, r2⟩
  | false =>
   clear hdd
   go_upto_region 21 with fail
   cases ht : tAt t u with
   | none =>
    rw [ht] at hV
    simp only at hV
    subst hV
    have HAJ : Hid (atI t u = -1) := Lib.hid (by rw [atI, ht])
    clear ht
    go_wp2_with (go_at_call 132; refine (HA.out _ _ B5.out).mono ?_; rintro e wA ⟨rfl, hw⟩; obtain rfl : w5 = wA := hw.symm; rw [HAJ.out])
    have T5 := Lib.hid (tat_growA HT.out B5.out)
    have H5 : Hid (dsk.Touch F w w5) := Lib.hid (dsk.Touch.of_below B5.out)
    have HS5 := HSZ
    have HP5 := HPS0
    rw [HSZ.out] at T5
    go_loopw [18] (fun iv wr => ∃ i : Nat, i ≤ n ∧ iv = .int .i64 (i : Int) ∧ Hid (MvAt w5 (grow F w w5) g s u t (.slice (some ⟨b, 0, none⟩) n c) i wr)) (fun iv _ => n - (intOf iv).toNat)
    case atStart => exact ⟨0, by omega, rfl, Lib.hid ⟨T5.out, dsk.Touch.refl _ _⟩⟩
    case round =>
     obtain ⟨i, hi, rfl, HM⟩ := hrel
     have q0 := HM.out.tree.parts.2.1
     by_cases hlt : i < n
     ·have hlti : (i : Int) < (n : Int) := by omega
      have hil : i < (t).length := by rw [HS5.out]; exact hlt
      have hml : (mvU s u t i).length = n := by rw [mvU_len s u t (by omega)]; exact HS5.out
      obtain ⟨bb, c', hv, hc1', hc2', hb, _, _, k0, _, _⟩ := HM.out.tree.node (i := i) (by rw [hml]; exact hlt)
      rw [hml] at hv
      cases hv
      obtain ⟨cur, hcur⟩ := HM.out.tree.froz
      have hat := mvU_at s u t hil
      have hnx := mvU_next s u t hil
      have hps := HP5.out i hil
      rw [hat] at k0
      obtain ⟨y, hy⟩ : ∃ y, (t).getD i nd0 = y := ⟨_, rfl⟩
      rw [hy] at k0 hps hnx hat
      obtain ⟨pt, hpt⟩ : ∃ pt, y.path = pt := ⟨_, rfl⟩
      rw [hpt] at k0 hps
      have HUi := Lib.hid fun w' => HU.out pt w' hps
      have HAT := Lib.hid hat
      have HML := Lib.hid hml
      have hgl' := HM.out.tree.lt
      have HC := Lib.hid fun w' (hb' : Below wr.heap.size wr w') => (⟨(hb'.cell (p := ⟨g, 0, none⟩) hgl').trans q0, (hb'.cell (p := ⟨b, i * 3, none⟩) hb).trans k0, frozen_row ((hb'.block b hb).trans hcur) (i * 3)⟩ : w'.cell? ⟨g, 0, none⟩ = some (.slice (some ⟨b, 0, none⟩) n _) ∧ w'.cell? ⟨b, i * 3, none⟩ = some (.string pt) ∧ w'.frozen? ⟨b, i * 3, none⟩ = false)
      cases hub : underB (bys pt) (bys s) with
      | false =>
       rw [hub] at HUi
       have HNX : Hid (mvU s u t (i + 1) = mvU s u t i) := Lib.hid (by rw [hnx, mvN_no (by rw [hpt]; exact hub)]; exact set_at (by rw [hml]; exact hlt) hat)
       clear hub hnx hat hml hy hcur hil hgl' hpt hps
       go_wp2_with (go_at_call 125; refine (HUi.out _).mono ?_; rintro e w9 ⟨rfl, hb'⟩; have B9 := Lib.hid hb'; clear hb')
       go_roundw
       case rel => exact ⟨i + 1, by omega, by go_num, Lib.hid ⟨by rw [HNX.out]; exact HM.out.tree.later B9.out, HM.out.touch.trans (dsk.Touch.of_below B9.out)⟩⟩
       case measure => simp [intOf]; omega
      | true =>
       rw [hub] at HUi
       have hus := under_size hub
       have HNX : Hid (mvU s u t (i + 1) = (mvU s u t i).set i (withP y (u ++ pt.extract s.size pt.size))) := Lib.hid (by rw [hnx, mvN_yes (by rw [hpt]; exact hub), path_val, hpt])
       have hxs : (pt.extract s.size pt.size).size ≤ 1000 := by rw [← bys_len, bys_drop, List.length_drop, bys_len]; omega
       have hxi : ((pt.extract s.size pt.size).size : Int) ≤ 1000 := by omega
       have husi : (s.size : Int) ≤ (pt.size : Int) := by omega
       have hpsi : (pt.size : Int) ≤ 1000 := by omega
       clear hub hnx hat hml hy hcur hil hgl' hpt
       go_upto_region 30 with (go_at_call 125; refine (HUi.out _).mono ?_; rintro e w9 ⟨rfl, hb'⟩; have B9 := Lib.hid hb'; clear hb')
       clear q0 k0
       obtain ⟨q0, q1', q2'⟩ := HC.out _ B9.out
       go_region
       go_wp2_with fail
       go_roundw
       case rel => exact ⟨i + 1, by omega, by go_num, Lib.hid (by
        have h6 := HM.out.tree.later B9.out.drew
        obtain ⟨r1, r2⟩ := tat_setP h6 HML.out hlt (u ++ pt.extract s.size pt.size)
        rw [HAT.out] at r1
        exact ⟨by rw [HNX.out]; exact r1, (HM.out.touch.trans (dsk.Touch.of_below B9.out.drew)).setCell ⟨b, i * 3, none⟩ r2 _⟩)⟩
       case measure => simp [intOf]; omega
     ·obtain rfl : i = n := by omega
      go_wp2_with fail
      go_ret
      have hT := HM.out.tree
      have e : mvU s u t i = (t).map (mvN s u) := by rw [← HS5.out]; exact mvU_all s u t
      rw [e] at hT
      obtain ⟨r1, r2⟩ := tis_touch rfl H5.out ⟨_, hT⟩ HM.out.touch
      exact ⟨rfl, r1, r2⟩
   | some j =>
    rw [ht] at hV
    simp only [Bool.false_eq_true, false_or] at hV
    have HAJ : Hid (atI t u = (j : Int)) := Lib.hid (by rw [atI, ht])
    have hjl := tAt_lt ht
    rw [HSZ.out] at hjl
    have hj0 : (0 : Int) ≤ (j : Int) := by omega
    have hji : (j : Int) < (n : Int) := by omega
    obtain ⟨bj, cj, hvj, _, _, hbj, _, _, _, z1, _⟩ := HN.out j hjl
    cases hvj
    have zj := (B5.out.cell (p := ⟨b, j * 3 + 1, none⟩) hbl).trans z1
    obtain ⟨dj, hdj⟩ : ∃ dj, (t.getD j nd0).dir = dj := ⟨_, rfl⟩
    rw [hdj] at zj hV
    clear ht z1 hdj
    cases dj with
    | true =>
     rw [if_pos rfl] at hV
     subst hV
     go_wp2_with (go_at_call 132; refine (HA.out _ _ B5.out).mono ?_; rintro e wA ⟨rfl, hw⟩; obtain rfl : w5 = wA := hw.symm; rw [HAJ.out])
     go_ret
     exact tdone_same HT.out B5.out _
    | false =>
     rw [if_neg (by decide)] at hV
     subst hV
     have HDj := Lib.hid (HDr.out _ B5.out j hjl)
     go_wp2_with (first | (go_at_call 132; refine (HA.out _ _ B5.out).mono ?_; rintro e wA ⟨rfl, hw⟩; obtain rfl : w5 = wA := hw.symm; rw [HAJ.out]) | (go_at_call 133; refine HDj.out.mono ?_; rintro e w8 ⟨rfl, r1, r2⟩; have R1 := Lib.hid r1; have R2 := Lib.hid r2; clear r1 r2))
     have H5 : Hid (dsk.Touch F w w8) := Lib.hid ((dsk.Touch.of_below B5.out).trans R2.out)
     obtain ⟨v8, T8⟩ := tis_mono (G := grow F w w8) R1.out (fun x hx => by
      rcases hx with hx | hx
      ·exact Or.inl hx
      ·exact Or.inr ⟨Nat.le_trans B5.out.size hx.1, hx.2⟩)
     obtain ⟨p8, c8, rfl⟩ := T8.parts.1
     have hl8 : (t.eraseIdx j).length = n - 1 := by rw [List.length_eraseIdx, if_pos (by rw [HSZ.out]; exact hjl), HSZ.out]
     obtain ⟨m8, hm8⟩ : ∃ m8, n - 1 = m8 := ⟨_, rfl⟩
     rw [hm8] at hl8
     have HS5 := Lib.hid hl8
     have HP5 : Hid (∀ i, i < (t.eraseIdx j).length → ((t.eraseIdx j).getD i nd0).path.size ≤ 1000) := Lib.hid (fun i hi => by
      rw [getD_drop]
      exact HPS0.out _ (upI_lt (by rw [HSZ.out]; exact hjl) (by rw [List.length_eraseIdx, if_pos (by rw [HSZ.out]; exact hjl)] at hi; exact hi)))
     have T5 := Lib.hid T8
     rw [HS5.out] at T5
     have hm100 : (m8 : Int) ≤ 100 := by omega
     clear T8 hl8 q0 q1 zj
     go_loopw [18] (fun iv wr => ∃ i : Nat, i ≤ m8 ∧ iv = .int .i64 (i : Int) ∧ Hid (MvAt w8 (grow F w w8) g s u (t.eraseIdx j) (.slice p8 m8 c8) i wr)) (fun iv _ => m8 - (intOf iv).toNat)
     case atStart => exact ⟨0, by omega, rfl, Lib.hid ⟨T5.out, dsk.Touch.refl _ _⟩⟩
     case round =>
      obtain ⟨i, hi, rfl, HM⟩ := hrel
      have q0 := HM.out.tree.parts.2.1
      by_cases hlt : i < m8
      ·have hlti : (i : Int) < (m8 : Int) := by omega
       have hil : i < ((t.eraseIdx j)).length := by rw [HS5.out]; exact hlt
       have hml : (mvU s u (t.eraseIdx j) i).length = m8 := by rw [mvU_len s u (t.eraseIdx j) (by omega)]; exact HS5.out
       obtain ⟨bb, c', hv, hc1', hc2', hb, _, _, k0, _, _⟩ := HM.out.tree.node (i := i) (by rw [hml]; exact hlt)
       rw [hml] at hv
       cases hv
       obtain ⟨cur, hcur⟩ := HM.out.tree.froz
       have hat := mvU_at s u (t.eraseIdx j) hil
       have hnx := mvU_next s u (t.eraseIdx j) hil
       have hps := HP5.out i hil
       rw [hat] at k0
       obtain ⟨y, hy⟩ : ∃ y, ((t.eraseIdx j)).getD i nd0 = y := ⟨_, rfl⟩
       rw [hy] at k0 hps hnx hat
       obtain ⟨pt, hpt⟩ : ∃ pt, y.path = pt := ⟨_, rfl⟩
       rw [hpt] at k0 hps
       have HUi := Lib.hid fun w' => HU.out pt w' hps
       have HAT := Lib.hid hat
       have HML := Lib.hid hml
       have hgl' := HM.out.tree.lt
       have HC := Lib.hid fun w' (hb' : Below wr.heap.size wr w') => (⟨(hb'.cell (p := ⟨g, 0, none⟩) hgl').trans q0, (hb'.cell (p := ⟨bb, i * 3, none⟩) hb).trans k0, frozen_row ((hb'.block bb hb).trans hcur) (i * 3)⟩ : w'.cell? ⟨g, 0, none⟩ = some (.slice (some ⟨bb, 0, none⟩) m8 _) ∧ w'.cell? ⟨bb, i * 3, none⟩ = some (.string pt) ∧ w'.frozen? ⟨bb, i * 3, none⟩ = false)
       cases hub : underB (bys pt) (bys s) with
       | false =>
        rw [hub] at HUi
        have HNX : Hid (mvU s u (t.eraseIdx j) (i + 1) = mvU s u (t.eraseIdx j) i) := Lib.hid (by rw [hnx, mvN_no (by rw [hpt]; exact hub)]; exact set_at (by rw [hml]; exact hlt) hat)
        clear hub hnx hat hml hy hcur hil hgl' hpt hps
        go_wp2_with (go_at_call 125; refine (HUi.out _).mono ?_; rintro e w9 ⟨rfl, hb'⟩; have B9 := Lib.hid hb'; clear hb')
        go_roundw
        case rel => exact ⟨i + 1, by omega, by go_num, Lib.hid ⟨by rw [HNX.out]; exact HM.out.tree.later B9.out, HM.out.touch.trans (dsk.Touch.of_below B9.out)⟩⟩
        case measure => simp [intOf]; omega
       | true =>
        rw [hub] at HUi
        have hus := under_size hub
        have HNX : Hid (mvU s u (t.eraseIdx j) (i + 1) = (mvU s u (t.eraseIdx j) i).set i (withP y (u ++ pt.extract s.size pt.size))) := Lib.hid (by rw [hnx, mvN_yes (by rw [hpt]; exact hub), path_val, hpt])
        have hxs : (pt.extract s.size pt.size).size ≤ 1000 := by rw [← bys_len, bys_drop, List.length_drop, bys_len]; omega
        have hxi : ((pt.extract s.size pt.size).size : Int) ≤ 1000 := by omega
        have husi : (s.size : Int) ≤ (pt.size : Int) := by omega
        have hpsi : (pt.size : Int) ≤ 1000 := by omega
        clear hub hnx hat hml hy hcur hil hgl' hpt
        go_upto_region 30 with (go_at_call 125; refine (HUi.out _).mono ?_; rintro e w9 ⟨rfl, hb'⟩; have B9 := Lib.hid hb'; clear hb')
        clear q0 k0
        obtain ⟨q0, q1', q2'⟩ := HC.out _ B9.out
        go_region
        go_wp2_with fail
        go_roundw
        case rel => exact ⟨i + 1, by omega, by go_num, Lib.hid (by
         have h6 := HM.out.tree.later B9.out.drew
         obtain ⟨r1, r2⟩ := tat_setP h6 HML.out hlt (u ++ pt.extract s.size pt.size)
         rw [HAT.out] at r1
         exact ⟨by rw [HNX.out]; exact r1, (HM.out.touch.trans (dsk.Touch.of_below B9.out.drew)).setCell ⟨bb, i * 3, none⟩ r2 _⟩)⟩
        case measure => simp [intOf]; omega
      ·obtain rfl : i = m8 := by omega
       go_wp2_with fail
       go_ret
       have hT := HM.out.tree
       have e : mvU s u (t.eraseIdx j) i = ((t.eraseIdx j)).map (mvN s u) := by rw [← HS5.out]; exact mvU_all s u (t.eraseIdx j)
       rw [e] at hT
       obtain ⟨r1, r2⟩ := tis_touch rfl H5.out ⟨_, hT⟩ HM.out.touch
       exact ⟨rfl, r1, r2⟩
end fs
namespace fs
set_option maxRecDepth 100000
open Go.ChangeShapes Go.WideShapes Go.ChangeAt Go.RowKit
open rows
open sec
open ly
open pa
open lk
open al
theorem rdeeper_any (s t : ByteArray) (w : World) (hs : s.size ≤ 100000) (ht : t.size ≤ 100000) : Calls Tryz.prog 62 #[.string s, .string t] w fun e w' => e = .returned (.bool (deeperB s t)) ∧ Below w.heap.size w w' := by
 have HS := Lib.hid fun w => rsplit_is s w hs
 have HT := Lib.hid fun w => rsplit_is t w ht
 have HU := Lib.hid fun w => runder_is t s w ht hs
 obtain ⟨V, hV⟩ : ∃ V, deeperB s t = V := ⟨_, rfl⟩
 rw [hV]
 unfold deeperB at hV
 clear hs ht
 cases hu : underB (bys t) (bys s) with
 | true =>
  rw [hu, Bool.true_or] at hV
  rw [hu] at HU
  subst hV
  go_enter Tryz.func62, Tryz.ntmps62
  go_upto_region 2 with (go_at_call 121; refine (HS.out _).mono ?_; rintro e w1 ⟨p1, n1, c1, rfl, hn1, _, hb⟩; have B1 := Lib.hid hb; clear hb hn1)
  go_wp2_with (first | (go_at_call 121; refine (HT.out _).mono ?_; rintro e w2 ⟨p2, n2, c2, rfl, hn2, _, hb⟩; have B2 := Lib.hid (below_trans B1.out hb); clear hb hn2) | (go_at_call 125; refine (HU.out _).mono ?_; rintro e w3 ⟨rfl, hb⟩; have B3 := Lib.hid (below_trans B2.out hb); clear hb))
  go_ret
  exact ⟨rfl, B3.out⟩
 | false =>
  rw [hu, Bool.false_or] at hV
  rw [hu] at HU
  go_enter Tryz.func62, Tryz.ntmps62
  go_upto_region 2 with (go_at_call 121; refine (HS.out _).mono ?_; rintro e w1 ⟨p1, n1, c1, rfl, hn1, _, hb⟩; have B1 := Lib.hid hb; rw [← hn1] at hV; clear hb hn1)
  go_wp2_with (first | (go_at_call 121; refine (HT.out _).mono ?_; rintro e w2 ⟨p2, n2, c2, rfl, hn2, _, hb⟩; have B2 := Lib.hid (below_trans B1.out hb); rw [← hn2] at hV; clear hb hn2) | (go_at_call 125; refine (HU.out _).mono ?_; rintro e w3 ⟨rfl, hb⟩; have B3 := Lib.hid (below_trans B2.out hb); clear hb))
  go_ret
  exact ⟨by rw [← hV]; simp, B3.out⟩
end fs
namespace fs
set_option maxRecDepth 100000
open Go.ChangeShapes Go.WideShapes Go.ChangeAt Go.RowKit
open rows
open sec
open ly
open pa
open lk
theorem inv_small {ss : List (List Int)} {t : List Nd} (I : Inv ss t) : TSm t where
 len := by
  rw [sim_count I.sim]
  have := used_few I.sim.fit
  omega
 data := fun i hi => by
  obtain ⟨k, hk, hs⟩ := I.sim.back i hi
  rcases ino_kinds (ss := ss) (entAt ss (k : Int)).target with h0 | h1 | h2
  ·exact absurd h0 (I.sim.fit.live k hk hs.used)
  ·have e := congrArg List.length (hs.data h1)
   rw [bys_len, readL, List.length_map, List.length_range] at e
   have := ino_sizes (ss := ss) (entAt ss (k : Int)).target
   omega
  ·rw [I.flat i hi (by rw [hs.dir, decide_eq_true h2])]
   exact Nat.zero_le _
 path := fun i hi => by
  obtain ⟨k, hk, hs⟩ := I.sim.back i hi
  obtain ⟨p, p0, p4, pn, pp, pl⟩ := hs.way
  rw [pp, strOfNums_size, joinP, if_neg p0]
  have h1 := joinL_len 8 (ns := p) fun x hx => (isNm_len (pn x hx)).2
  have h2 : p.length * (8 + 1) ≤ 4 * 9 := Nat.mul_le_mul_right _ p4
  omega
structure FAct where
 kind : Int
 p : ByteArray
 q : ByteArray
 n : Int
 b : List Int
 bad : List Int
def tDo (t : List Nd) (a : FAct) : Int × List Nd :=
 if a.kind = 0 then tMake t a.p false else if a.kind = 1 then tMake t a.p true
 else if a.kind = 2 then tWrite t a.p a.n (strOfNums a.b) else if a.kind = 3 then tAppend t a.p (strOfNums a.b)
 else if a.kind = 4 then tTrunc t a.p a.n else if a.kind = 5 then tRename t a.p a.q else if a.kind = 6 then tUnlink t a.p else (0, t)
def fDo (st : dsk.St) (a : FAct) : Int × dsk.St :=
 if a.kind = 0 then makeV st a.p 1 else if a.kind = 1 then makeV st a.p 2
 else if a.kind = 2 then writeFV st a.p a.n a.b else if a.kind = 3 then appendV st a.p a.b
 else if a.kind = 4 then truncV st a.p a.n else if a.kind = 5 then renameV st a.p a.q else if a.kind = 6 then unlinkV st a.p else (0, st)
theorem act_inv {st : dsk.St} (hs : Sound st) {t : List Nd} (I : Inv (nowL st) t) (a : FAct) (hb : ∀ z ∈ a.b, 0 ≤ z ∧ z < 256) : Both (tDo t a) (fDo st a) := by
 have eb : bys (strOfNums a.b) = a.b := bys_strOf hb
 unfold tDo fDo
 by_cases h0 : a.kind = 0
 ·rw [if_pos h0, if_pos h0]
  exact make_inv hs I a.p (kind := 1) (Or.inl rfl)
 rw [if_neg h0, if_neg h0]
 by_cases h1 : a.kind = 1
 ·rw [if_pos h1, if_pos h1]
  exact make_inv hs I a.p (kind := 2) (Or.inr rfl)
 rw [if_neg h1, if_neg h1]
 by_cases h2 : a.kind = 2
 ·rw [if_pos h2, if_pos h2]
  have := write_inv hs I a.p a.n (strOfNums a.b)
  rwa [eb] at this
 rw [if_neg h2, if_neg h2]
 by_cases h3 : a.kind = 3
 ·rw [if_pos h3, if_pos h3]
  have := append_inv hs I a.p (strOfNums a.b)
  rwa [eb] at this
 rw [if_neg h3, if_neg h3]
 by_cases h4 : a.kind = 4
 ·rw [if_pos h4, if_pos h4]
  exact trunc_inv hs I a.p a.n
 rw [if_neg h4, if_neg h4]
 by_cases h5 : a.kind = 5
 ·rw [if_pos h5, if_pos h5]
  exact rename_inv hs I a.p a.q
 rw [if_neg h5, if_neg h5]
 by_cases h6 : a.kind = 6
 ·rw [if_pos h6, if_pos h6]
  exact unlink_inv hs I a.p
 rw [if_neg h6, if_neg h6]
 exact ⟨rfl, I, hs⟩
theorem inv_empty : Inv emptyImg [] := by
 have hu : ∀ k : Nat, k < 24 → (entAt emptyImg (k : Int)).used = false := by decide +kernel
 have hno : ∀ k : Nat, k < 24 → ¬ (entAt emptyImg (k : Int)).used = true := fun k hk h => by rw [hu k hk] at h; cases h
 refine ⟨⟨⟨emptyImg_len, emptyImg_secs, by decide +kernel, fun j k hj _ h => absurd h (hno j hj), fun k hk h => absurd h (hno k hk), fun j k hj _ h => absurd h (hno j hj)⟩, fun k hk h => absurd h (hno k hk), fun i hi => absurd hi (Nat.not_lt_zero i), fun i j hi => absurd hi (Nat.not_lt_zero i)⟩, fun j k i l hj _ h => absurd h (hno j hj), fun i hi => absurd hi (Nat.not_lt_zero i)⟩
theorem inv_counts {ss : List (List Int)} {t : List Nd} (I : Inv ss t) : al.cntI ss = 1 + t.length ∧ al.cntE ss = t.length ∧ al.cntB ss = tBlocks t := by
 have hE : al.cntE ss = (usedL ss).length := by rw [al.cntE, cntU_filter]; rfl
 refine ⟨?_, by rw [hE, sim_count I.sim], (tree_blocks I).symm⟩
 rw [sim_count I.sim, al.cntI, cntU_filter]
 have F := I.sim.fit
 have ht : ∀ n : Nat, n < 16 → (takenB ss (n : Int) = true ↔ n = 0 ∨ ∃ k, k < 24 ∧ (entAt ss (k : Int)).used = true ∧ (entAt ss (k : Int)).target = (n : Int)) := fun n hn => by
  rw [takenB, Bool.or_eq_true, decide_eq_true_eq, namedIn, List.any_eq_true]
  constructor
  ·rintro (⟨k, hk, h⟩ | h)
   ·rw [Bool.and_eq_true, decide_eq_true_eq] at h
    exact Or.inr ⟨k, by have := List.mem_range.1 hk; omega, h.1, h.2⟩
   ·exact Or.inl (by omega)
  ·rintro (h | ⟨k, hk, h1, h2⟩)
   ·exact Or.inr (by omega)
   ·obtain ⟨k', rfl⟩ : ∃ k' : Nat, k = k' := ⟨k.toNat, by
     by_cases h0 : 0 ≤ k
     ·omega
     ·have : (entAt ss k).used = false := by rw [entAt, if_neg (by omega)]; rfl
      rw [this] at h1; cases h1⟩
    exact Or.inl ⟨k', List.mem_range.2 (by omega), by rw [h1, decide_eq_true h2]; rfl⟩
 have hlen : (0 :: (usedL ss).map fun k : Nat => (entAt ss (k : Int)).target.toNat).length = 1 + (usedL ss).length := by simp; omega
 rw [← hlen]
 refine Nat.le_antisymm ?_ ?_
 ·refine inj_len _ _ id (List.nodup_range.filter _) (fun x _ y _ e => e) (fun x hx => ?_)
  obtain ⟨h1, h2⟩ := List.mem_filter.1 hx
  rcases (ht x (List.mem_range.1 h1)).1 h2 with rfl | ⟨k, hk, hu, e⟩
  ·exact List.mem_cons_self ..
  ·obtain ⟨k', rfl⟩ : ∃ k' : Nat, k = k' := ⟨k.toNat, by
    by_cases h0 : 0 ≤ k
    ·omega
    ·have : (entAt ss k).used = false := by rw [entAt, if_neg (by omega)]; rfl
     rw [this] at hu; cases hu⟩
   exact List.mem_cons_of_mem _ (List.mem_map.2 ⟨k', usedL_mem.2 ⟨by omega, hu⟩, by show (entAt ss (k' : Int)).target.toNat = x; omega⟩)
 ·refine inj_len _ _ id ?_ (fun x _ y _ e => e) (fun x hx => ?_)
  ·rw [List.nodup_cons]
   refine ⟨fun hm => ?_, ?_⟩
   ·obtain ⟨k, hk, e⟩ := List.mem_map.1 hm
    have := (ent_used (usedL_mem.1 hk).2).2.2.1
    omega
   ·refine List.Pairwise.map _ (R := fun a b => (a ∈ usedL ss ∧ b ∈ usedL ss) ∧ a ≠ b) (fun a b hab => ?_) ?_
    ·obtain ⟨⟨ha, hb⟩, hne⟩ := hab
     obtain ⟨a1, a2⟩ := usedL_mem.1 ha
     obtain ⟨b1, b2⟩ := usedL_mem.1 hb
     have := (ent_used a2).2.2.1
     have := (ent_used b2).2.2.1
     exact fun e => hne (F.tgt a b a1 b1 a2 b2 (by omega))
    ·exact List.Pairwise.and_mem.1 (usedL_nodup ss) |>.imp fun {a b} h => ⟨⟨h.1, h.2.1⟩, h.2.2⟩
  ·show x ∈ _
   rcases List.mem_cons.1 hx with rfl | hx
   ·exact List.mem_filter.2 ⟨List.mem_range.2 (by omega), (ht 0 (by omega)).2 (Or.inl rfl)⟩
   ·obtain ⟨k, hk, rfl⟩ := List.mem_map.1 hx
    obtain ⟨k1, k2⟩ := usedL_mem.1 hk
    have h3 := ent_used k2
    exact List.mem_filter.2 ⟨List.mem_range.2 (by omega), (ht _ (by omega)).2 (Or.inr ⟨(k : Int), by omega, k2, by omega⟩)⟩
end fs
namespace fs
set_option maxRecDepth 100000
open Go.ChangeShapes Go.WideShapes Go.ChangeAt Go.RowKit
open rows
open sec
open dsk (wf64)
open ly
open pa
open lk
theorem conv_rows {w : World} {v : Value} {n : Nat} {xs : List Int} (h : Rd w 1 v n (xs.map (Value.int .u8))) (hx : ∀ x ∈ xs, 0 ≤ x ∧ x < 256) : (convert 38 9 v).run Tryz.prog w = .ok (.string (strOfNums xs)) w := by
 rcases h with ⟨p, cap, rfl, rfl, h0, hp⟩ | ⟨b, off, cap, rfl, h2, h2a, h2b, h3, h4, h5⟩
 ·obtain rfl : xs = [] := List.map_eq_nil_iff.1 h0
  cases p with
  | none => exact run_convert_bytes_nil w 38 5 Tryz.underlying38 Tryz.underlying5 0 cap 9 Tryz.underlying9
  | some a =>
   rw [run_convert_bytes_string w 38 9 5 _ 0 cap Tryz.underlying38 Tryz.underlying5 Tryz.underlying9, run_bytesToString w _ 0 cap [] (by have := run_loadCells_list (P := Tryz.prog) w a [] (by simp); simpa using this), foldl_push_bytes]
   rfl
 ·have hn : n = xs.length := by rw [List.length_map] at h4; omega
  subst hn
  exact run_convert_bytes_arg w 38 5 Tryz.underlying38 Tryz.underlying5 b off xs.length cap xs rfl (fun i hi => h5 i _ (by simp [List.getD, hi])) 9 Tryz.underlying9
structure ActIn (w : World) (a : FAct) (vb vf : Value) : Prop where
 kind : wf64 a.kind
 n : wf64 a.n
 p : a.p.size ≤ 100
 q : a.q.size ≤ 100
 bl : a.b.length ≤ 300
 bb : ∀ z ∈ a.b, 0 ≤ z ∧ z < 256
 rd : Rd w 1 vb a.b.length (a.b.map (Value.int .u8))
theorem ActIn.later {w w' : World} {a : FAct} {vb vf : Value} (h : ActIn w a vb vf) (k : Below w.heap.size w w') : ActIn w' a vb vf := ⟨h.kind, h.n, h.p, h.q, h.bl, h.bb, h.rd.later k⟩
abbrev actC (a : FAct) (vb vf : Value) : Array Value := #[.int .i64 a.kind, .string a.p, .string a.q, .int .i64 a.n, vb, vf]
set_option maxRecDepth 100000 in
set_option maxHeartbeats 6400000 in
theorem ltree_any (w : World) (F : Nat → Prop) (g : Nat) (t : List Nd) (v : Value) (h : TAt w F g t v) (hs : TSm t) (a : FAct) (p1 : Option Addr) (n1 c1 : Nat) (p2 : Option Addr) (n2 c2 : Nat) (ha : ActIn w a (.slice p1 n1 c1) (.slice p2 n2 c2)) :
  Calls Tryz.prog 28 #[.pointer (some ⟨g, 0, none⟩), .agg (actC a (.slice p1 n1 c1) (.slice p2 n2 c2))] w (TDone F g w (tDo t a)) := by
 have HT := Lib.hid h
 have HS := Lib.hid hs
 have HAc := Lib.hid ha
 obtain ⟨kd, pp, qq, nn, bb, bad⟩ := a
 have hbox : Hid (Below w.heap.size w (w.alloc (.cells #[.int .i64 kd, .string pp, .string qq, .int .i64 nn, .slice p1 n1 c1, .slice p2 n2 c2] 41))) := Lib.hid (below_alloc (Below.refl _ _) _)
 have hcv := conv_rows (ha.rd.later hbox.out) ha.bb
 have HV : Hid (tDo t ⟨kd, pp, qq, nn, bb, bad⟩ = if kd = 0 then tMake t pp false else if kd = 1 then tMake t pp true else if kd = 2 then tWrite t pp nn (strOfNums bb) else if kd = 3 then tAppend t pp (strOfNums bb) else if kd = 4 then tTrunc t pp nn else if kd = 5 then tRename t pp qq else if kd = 6 then tUnlink t pp else (0, t)) := Lib.hid rfl
 have hpz := ha.p
 have hqz := ha.q
 have hbz : (strOfNums bb).size ≤ 1000 := by rw [strOfNums_size]; have := ha.bl; simp only at this; omega
 have hnw := ha.n
 simp only at hpz hqz hnw hcv
 generalize strOfNums bb = bs at *
 obtain ⟨V, hV⟩ : ∃ V, tDo t ⟨kd, pp, qq, nn, bb, bad⟩ = V := ⟨_, rfl⟩
 rw [hV] at HV ⊢
 have T1 := Lib.hid (HT.out.later hbox.out)
 generalize hW : w.alloc (.cells #[.int .i64 kd, .string pp, .string qq, .int .i64 nn, .slice p1 n1 c1, .slice p2 n2 c2] 41) = W at *
 clear h hs ha HAc hV
 by_cases h0 : kd = 0
 ·subst h0
  have HC := Lib.hid (rtmake_is W F g t v T1.out HS.out pp (by omega) false)
  rw [HV.out.trans (if_pos rfl)]
  clear HV hcv
  subst hW
  go_enter Tryz.func28, Tryz.ntmps28
  go_wp2_with (go_at_call 75; refine HC.out.mono ?_; rintro e w2 hd; have D2 := Lib.hid (tdone_from hbox.out hd); obtain ⟨rfl, _⟩ := hd)
  go_ret
  exact D2.out
 have k0 : (kd == 0) = false := beq_eq_false_iff_ne.2 h0
 have HV := Lib.hid (HV.out.trans (if_neg h0))
 by_cases h1 : kd = 1
 ·subst h1
  have HC := Lib.hid (rtmake_is W F g t v T1.out HS.out pp (by omega) true)
  rw [HV.out.trans (if_pos rfl)]
  clear HV h0
  subst hW
  go_enter Tryz.func28, Tryz.ntmps28
  go_wp2_with (go_at_call 75; refine HC.out.mono ?_; rintro e w2 hd; have D2 := Lib.hid (tdone_from hbox.out hd); obtain ⟨rfl, _⟩ := hd)
  go_ret
  exact D2.out
 have k1 : (kd == 1) = false := beq_eq_false_iff_ne.2 h1
 have HV := Lib.hid (HV.out.trans (if_neg h1))
 by_cases h2 : kd = 2
 ·subst h2
  have HC := Lib.hid (rtwrite_is W F g t v T1.out HS.out pp (by omega) nn hnw bs hbz)
  rw [HV.out.trans (if_pos rfl)]
  clear HV h0 h1
  subst hW
  go_enter Tryz.func28, Tryz.ntmps28
  go_wp2_with (go_at_call 76; refine HC.out.mono ?_; rintro e w2 hd; have D2 := Lib.hid (tdone_from hbox.out hd); obtain ⟨rfl, _⟩ := hd)
  go_ret
  exact D2.out
 have k2 : (kd == 2) = false := beq_eq_false_iff_ne.2 h2
 have HV := Lib.hid (HV.out.trans (if_neg h2))
 by_cases h3 : kd = 3
 ·subst h3
  have HC := Lib.hid (rtappend_is W F g t v T1.out HS.out pp (by omega) bs hbz)
  rw [HV.out.trans (if_pos rfl)]
  clear HV h0 h1 h2
  subst hW
  go_enter Tryz.func28, Tryz.ntmps28
  go_wp2_with (go_at_call 77; refine HC.out.mono ?_; rintro e w2 hd; have D2 := Lib.hid (tdone_from hbox.out hd); obtain ⟨rfl, _⟩ := hd)
  go_ret
  exact D2.out
 have k3 : (kd == 3) = false := beq_eq_false_iff_ne.2 h3
 have HV := Lib.hid (HV.out.trans (if_neg h3))
 by_cases h4 : kd = 4
 ·subst h4
  have HC := Lib.hid (rttrunc_is W F g t v T1.out HS.out pp (by omega) nn hnw)
  rw [HV.out.trans (if_pos rfl)]
  clear HV h0 h1 h2 h3
  subst hW
  go_enter Tryz.func28, Tryz.ntmps28
  go_wp2_with (go_at_call 78; refine HC.out.mono ?_; rintro e w2 hd; have D2 := Lib.hid (tdone_from hbox.out hd); obtain ⟨rfl, _⟩ := hd)
  go_ret
  exact D2.out
 have k4 : (kd == 4) = false := beq_eq_false_iff_ne.2 h4
 have HV := Lib.hid (HV.out.trans (if_neg h4))
 by_cases h5 : kd = 5
 ·subst h5
  have HC := Lib.hid (rtrename_is W F g t v T1.out HS.out pp qq (by omega) (by omega) (fun w' => rdeeper_any pp qq w' (by omega) (by omega)))
  rw [HV.out.trans (if_pos rfl)]
  clear HV h0 h1 h2 h3 h4
  subst hW
  go_enter Tryz.func28, Tryz.ntmps28
  go_wp2_with (go_at_call 79; refine HC.out.mono ?_; rintro e w2 hd; have D2 := Lib.hid (tdone_from hbox.out hd); obtain ⟨rfl, _⟩ := hd)
  go_ret
  exact D2.out
 have k5 : (kd == 5) = false := beq_eq_false_iff_ne.2 h5
 have HV := Lib.hid (HV.out.trans (if_neg h5))
 by_cases h6 : kd = 6
 ·subst h6
  have HC := Lib.hid (rtunlink_is W F g t v T1.out HS.out pp (by omega))
  rw [HV.out.trans (if_pos rfl)]
  clear HV h0 h1 h2 h3 h4 h5
  subst hW
  go_enter Tryz.func28, Tryz.ntmps28
  go_wp2_with (go_at_call 80; refine HC.out.mono ?_; rintro e w2 hd; have D2 := Lib.hid (tdone_from hbox.out hd); obtain ⟨rfl, _⟩ := hd)
  go_ret
  exact D2.out
 have k6 : (kd == 6) = false := beq_eq_false_iff_ne.2 h6
 have HV := Lib.hid (HV.out.trans (if_neg h6))
 rw [HV.out]
 clear HV hcv h0 h1 h2 h3 h4 h5 h6
 subst hW
 go_enter Tryz.func28, Tryz.ntmps28
 go_wp2_with fail
 go_ret
 exact tdone_same HT.out hbox.out _
end fs
namespace fs
set_option maxRecDepth 100000
open Go.ChangeShapes Go.WideShapes Go.ChangeAt Go.RowKit
open rows
open sec
open dsk (wf64 InS Keeps grow)
open ly
open pa
open lk
def FDone (FI : World → (Nat → Prop) → Value → dsk.St → Prop) (F : Nat → Prop) (f : Value) (w : World) (r : Int × dsk.St) (e : Ending) (w' : World) : Prop := e = .returned (.int .i64 r.1) ∧ FI w' (grow F w w') f r.2 ∧ dsk.Touch F w w'
structure SfsIs (FI : World → (Nat → Prop) → Value → dsk.St → Prop) : Prop where
 kept : ∀ (w w' : World) (F : Nat → Prop) (f : Value) (st : dsk.St), FI w F f st → Keeps F w w' → FI w' F f st
 mono : ∀ (w : World) (F G : Nat → Prop) (f : Value) (st : dsk.St), FI w F f st → (∀ b, F b → G b) → FI w G f st
 read : ∀ (w : World) (F : Nat → Prop) (f : Value) (st : dsk.St) (k : Nat) (s : ByteArray), FI w F f st → st.good k → k ≤ 880 → Mx w → s.size ≤ 100000 → Calls Tryz.prog 34 #[f, .string s] w fun e w' => ∃ p n c, e = .returned (.tuple #[.slice p n c, .int .i64 (readV (nowL st) s).2]) ∧ n = (readV (nowL st) s).1.length ∧ Rd w' 1 (.slice p n c) n ((readV (nowL st) s).1.map (Value.int .u8)) ∧ Below w.heap.size w w'
 exist : ∀ (w : World) (F : Nat → Prop) (f : Value) (st : dsk.St) (k : Nat) (s : ByteArray), FI w F f st → st.good k → k ≤ 880 → Mx w → s.size ≤ 100000 → Calls Tryz.prog 42 #[f, .string s] w fun e w' => e = .returned (.bool (decide ((lookV (nowL st) (bys s)).2 = 0))) ∧ Below w.heap.size w w'
 create : ∀ (w : World) (F : Nat → Prop) (f : Value) (st : dsk.St) (k : Nat) (s : ByteArray), FI w F f st → st.good k → k ≤ 880 → Mx w → s.size ≤ 100000 → Calls Tryz.prog 38 #[f, .string s] w (FDone FI F f w (makeV st s 1))
 mkdir : ∀ (w : World) (F : Nat → Prop) (f : Value) (st : dsk.St) (k : Nat) (s : ByteArray), FI w F f st → st.good k → k ≤ 880 → Mx w → s.size ≤ 100000 → Calls Tryz.prog 65 #[f, .string s] w (FDone FI F f w (makeV st s 2))
 write : ∀ (w : World) (F : Nat → Prop) (f : Value) (st : dsk.St) (k : Nat) (s : ByteArray) (off : Int) (p : Option Addr) (m c : Nat) (b : List Int), FI w F f st → st.good k → k ≤ 880 → Mx w → s.size ≤ 100000 → wf64 off → Rd w 1 (.slice p m c) m (b.map (Value.int .u8)) → InS (fun x => ¬ F x) (.slice p m c) → m ≤ 300 → (∀ x ∈ b, 0 ≤ x ∧ x < 256) → Calls Tryz.prog 39 #[f, .string s, .int .i64 off, .slice p m c] w (FDone FI F f w (writeFV st s off b))
 append : ∀ (w : World) (F : Nat → Prop) (f : Value) (st : dsk.St) (k : Nat) (s : ByteArray) (p : Option Addr) (m c : Nat) (b : List Int), FI w F f st → st.good k → k ≤ 880 → Mx w → s.size ≤ 100000 → Rd w 1 (.slice p m c) m (b.map (Value.int .u8)) → InS (fun x => ¬ F x) (.slice p m c) → m ≤ 300 → (∀ x ∈ b, 0 ≤ x ∧ x < 256) → Calls Tryz.prog 66 #[f, .string s, .slice p m c] w (FDone FI F f w (appendV st s b))
 trunc : ∀ (w : World) (F : Nat → Prop) (f : Value) (st : dsk.St) (k : Nat) (s : ByteArray) (z : Int), FI w F f st → st.good k → k ≤ 880 → Mx w → s.size ≤ 100000 → wf64 z → Calls Tryz.prog 67 #[f, .string s, .int .i64 z] w (FDone FI F f w (truncV st s z))
 rename : ∀ (w : World) (F : Nat → Prop) (f : Value) (st : dsk.St) (k : Nat) (s : ByteArray) (u : ByteArray), FI w F f st → st.good k → k ≤ 880 → Mx w → s.size ≤ 100000 → u.size ≤ 100000 → Calls Tryz.prog 35 #[f, .string s, .string u] w (FDone FI F f w (renameV st s u))
 unlink : ∀ (w : World) (F : Nat → Prop) (f : Value) (st : dsk.St) (k : Nat) (s : ByteArray), FI w F f st → st.good k → k ≤ 880 → Mx w → s.size ≤ 100000 → Calls Tryz.prog 43 #[f, .string s] w (FDone FI F f w (unlinkV st s))
theorem SfsIs.later {FI : World → (Nat → Prop) → Value → dsk.St → Prop} (C : SfsIs FI) {w w' : World} {F : Nat → Prop} {f : Value} {st : dsk.St} (h : FI w F f st) (hb : Below w.heap.size w w') : FI w' F f st :=
 C.kept _ _ _ _ _ h ⟨hb.size, fun k hk _ => hb.block k hk⟩
theorem lnum_any (z : Int) (w : World) : Calls Tryz.prog 12 #[.int .i64 z] w fun e w' => e = .returned (.int .i64 z) ∧ w' = w := by
 go_enter Tryz.func12, Tryz.ntmps12
 go_wp2
 go_ret
 exact ⟨rfl, rfl⟩
theorem read_small {ss : List (List Int)} (hs : Secs ss) (s : ByteArray) : ∀ z ∈ (readV ss s).1, 0 ≤ z ∧ z < 256 := fun z hz => by
 unfold readV at hz
 split at hz
 ·cases hz
 ·unfold readL at hz
  obtain ⟨i, _, rfl⟩ := List.mem_map.1 hz
  unfold byteAt
  exact sec_getD (secAt_list hs _) _
set_option maxRecDepth 100000 in
set_option maxHeartbeats 3200000 in
theorem ltells_any {FI : World → (Nat → Prop) → Value → dsk.St → Prop} (C : SfsIs FI) (w : World) (F G : Nat → Prop) (f : Value) (st : dsk.St) (k : Nat) (g : Nat) (t : List Nd) (v : Value) (hf : FI w F f st) (hg : st.good k) (hk : k ≤ 880) (hm : Mx w) (ht : TAt w G g t v) (I : Inv (nowL st) t) (s : ByteArray) (hsz : s.size ≤ 100000) :
  Calls Tryz.prog 29 #[f, .pointer (some ⟨g, 0, none⟩), .string s] w fun e w' => e = .returned (.bool true) ∧ Below w.heap.size w w' := by
 have hsm := inv_small I
 have HR := Lib.hid (C.read w F f st k s hf hg hk hm hsz)
 have HX := Lib.hid fun w' (hb : Below w.heap.size w w') => C.exist w' F f st k s (C.later hf hb) hg hk (hm.later hb) hsz
 have HTR := Lib.hid fun w' (hb : Below w.heap.size w w') => rtread_is w' G g t v (ht.later hb) (by have := hsm.len; omega) s hsz
 have HTL := Lib.hid fun w' (hb : Below w.heap.size w w') => rlook_is w' G g t v (ht.later hb) (by have := hsm.len; omega) s hsz
 obtain ⟨e1, e2⟩ := readV_same I.sim s
 have e3 := look_same I.sim s
 have HRS := Lib.hid (read_small I.sim.fit.secs s)
 rw [← e1, ← e2] at HR
 rw [← e2] at HRS
 rw [← e3] at HX
 have HNU := Lib.hid fun z w' => lnum_any z w'
 generalize tRead t s = rd at *
 obtain ⟨d, er⟩ := rd
 generalize tLook t s = lk at *
 obtain ⟨nd, el⟩ := lk
 simp only at HR HX HTR HTL HRS
 have hself : (d.toList == d.toList) = true := by simp
 clear hf hg hm ht I hsz hsm e1 e2 e3
 go_enter Tryz.func29, Tryz.ntmps29
 go_upto_region 4 with (first | (go_at_call 34; refine HR.out.mono ?_; rintro e w1 ⟨p, n, c, rfl, hn, hr, hb⟩; have B1 := Lib.hid hb; have R1 := Lib.hid hr; have N1 := Lib.hid hn; clear hr hb hn) | (go_at_call 81; refine (HTR.out _ B1.out).mono ?_; rintro e w2 ⟨rfl, hb⟩; have B2 := Lib.hid (below_trans B1.out hb); have R2 := Lib.hid (R1.out.later hb); clear hb) | (go_at_call 82; refine (HTL.out _ B2.out).mono ?_; rintro e w3 ⟨rfl, hb⟩; have B3 := Lib.hid (below_trans B2.out hb); have R3 := Lib.hid (R2.out.later hb); clear hb))
 obtain ⟨np, ndr, nda⟩ := nd
 have B4 := Lib.hid (below_alloc B3.out (.cells #[.string np, .bool ndr, .string nda] 67))
 have hcv := conv_rows (R3.out.later (below_alloc (Below.refl w3.heap.size w3) (.cells #[.string np, .bool ndr, .string nda] 67))) HRS.out
 rw [strOf_bys] at hcv
 have HXb := Lib.hid (HX.out _ B4.out)
 generalize w3.alloc (.cells #[.string np, .bool ndr, .string nda] 67) = w4 at *
 have hlb : (decide (el = 0) == (el == 0)) = true := by
  by_cases h : el = 0 <;> simp [h]
 have her : (er == er) = true := by simp
 clear R1 R2 R3 HR HX HTR HTL HRS N1
 go_wp2_with (first | (go_at_call 12; refine (HNU.out _ _).mono ?_; rintro e w6 ⟨rfl, hw⟩; obtain rfl := hw) | (go_at_call 42; refine HXb.out.mono ?_; rintro e w5 ⟨rfl, hb⟩; have B5 := Lib.hid (below_trans B4.out hb); clear hb))
 go_ret
 exact ⟨by simp, B5.out⟩
end fs
namespace fs
set_option maxRecDepth 100000
open Go.ChangeShapes Go.WideShapes Go.ChangeAt Go.RowKit
open rows
open sec
open dsk (InS)
open ly
open pa
open lk
theorem fdone_from {FI : World → (Nat → Prop) → Value → dsk.St → Prop} (C : SfsIs FI) {F : Nat → Prop} {f : Value} {w w1 : World} {r : Int × dsk.St} {e : Ending} {w' : World} (hb : Below w.heap.size w w1) (h : FDone FI F f w1 r e w') : FDone FI F f w r e w' := by
 obtain ⟨h1, h2, h3⟩ := h
 refine ⟨h1, C.mono _ _ _ _ _ h2 fun b hb' => ?_, (dsk.Touch.of_below hb).trans h3⟩
 rcases hb' with h | h
 ·exact Or.inl h
 ·exact Or.inr ⟨Nat.le_trans hb.size h.1, h.2⟩
theorem fdone_same {FI : World → (Nat → Prop) → Value → dsk.St → Prop} (C : SfsIs FI) {F : Nat → Prop} {f : Value} {st : dsk.St} {w w1 : World} (h : FI w F f st) (hb : Below w.heap.size w w1) (r : Int) : FDone FI F f w (r, st) (.returned (.int .i64 r)) w1 :=
 ⟨rfl, C.mono _ _ _ _ _ (C.later h hb) fun b hb => Or.inl hb, dsk.Touch.of_below hb⟩
set_option maxRecDepth 100000 in
set_option maxHeartbeats 6400000 in
theorem ldo_any {FI : World → (Nat → Prop) → Value → dsk.St → Prop} (C : SfsIs FI) (w : World) (F : Nat → Prop) (f : Value) (st : dsk.St) (k : Nat) (hf : FI w F f st) (hg : st.good k) (hk : k ≤ 880) (hm : Mx w) (a : FAct) (p1 : Option Addr) (n1 c1 : Nat) (p2 : Option Addr) (n2 c2 : Nat) (ha : ActIn w a (.slice p1 n1 c1) (.slice p2 n2 c2)) (hin : InS (fun x => ¬ F x) (.slice p1 n1 c1)) (h7 : a.kind ≠ 7) :
  Calls Tryz.prog 21 #[f, .agg (actC a (.slice p1 n1 c1) (.slice p2 n2 c2))] w (FDone FI F f w (fDo st a)) := by
 have HF := Lib.hid hf
 obtain ⟨kd, pp, qq, nn, bb, bad⟩ := a
 have hbox : Hid (Below w.heap.size w (w.alloc (.cells #[.int .i64 kd, .string pp, .string qq, .int .i64 nn, .slice p1 n1 c1, .slice p2 n2 c2] 41))) := Lib.hid (below_alloc (Below.refl _ _) _)
 have HV : Hid (fDo st ⟨kd, pp, qq, nn, bb, bad⟩ = if kd = 0 then makeV st pp 1 else if kd = 1 then makeV st pp 2 else if kd = 2 then writeFV st pp nn bb else if kd = 3 then appendV st pp bb else if kd = 4 then truncV st pp nn else if kd = 5 then renameV st pp qq else if kd = 6 then unlinkV st pp else (0, st)) := Lib.hid rfl
 have hpz := ha.p
 have hqz := ha.q
 have hnw := ha.n
 have hbl := ha.bl
 have hbb := ha.bb
 have hrl : n1 = bb.length := ha.rd.len
 simp only at hpz hqz hnw hbl hbb
 rw [← hrl] at hbl
 have R1 : Hid (Rd (w.alloc (.cells #[.int .i64 kd, .string pp, .string qq, .int .i64 nn, .slice p1 n1 c1, .slice p2 n2 c2] 41)) 1 (.slice p1 n1 c1) n1 (bb.map (Value.int .u8))) := Lib.hid (by have := ha.rd.later hbox.out; simp only at this; rw [← hrl] at this; exact this)
 have IN1 := Lib.hid hin
 have F1 := Lib.hid (C.later HF.out hbox.out)
 have M1 := Lib.hid (hm.later hbox.out)
 generalize hW : w.alloc (.cells #[.int .i64 kd, .string pp, .string qq, .int .i64 nn, .slice p1 n1 c1, .slice p2 n2 c2] 41) = W at *
 simp only at h7
 clear hf hm ha hin hrl
 by_cases h0 : kd = 0
 ·subst h0
  have HC := Lib.hid (C.create W F f st k pp F1.out hg hk M1.out (by omega))
  rw [HV.out.trans (if_pos rfl)]
  clear HV
  subst hW
  go_enter Tryz.func21, Tryz.ntmps21
  go_wp2_with (go_at_call 38; refine HC.out.mono ?_; rintro e w2 hd; have D2 := Lib.hid (fdone_from C hbox.out hd); obtain ⟨rfl, _⟩ := hd)
  go_ret
  exact D2.out
 have k0 : (kd == 0) = false := beq_eq_false_iff_ne.2 h0
 have HV := Lib.hid (HV.out.trans (if_neg h0))
 by_cases h1 : kd = 1
 ·subst h1
  have HC := Lib.hid (C.mkdir W F f st k pp F1.out hg hk M1.out (by omega))
  rw [HV.out.trans (if_pos rfl)]
  clear HV h0
  subst hW
  go_enter Tryz.func21, Tryz.ntmps21
  go_wp2_with (go_at_call 65; refine HC.out.mono ?_; rintro e w2 hd; have D2 := Lib.hid (fdone_from C hbox.out hd); obtain ⟨rfl, _⟩ := hd)
  go_ret
  exact D2.out
 have k1 : (kd == 1) = false := beq_eq_false_iff_ne.2 h1
 have HV := Lib.hid (HV.out.trans (if_neg h1))
 by_cases h2 : kd = 2
 ·subst h2
  have HC := Lib.hid (C.write W F f st k pp nn p1 n1 c1 bb F1.out hg hk M1.out (by omega) hnw R1.out IN1.out hbl hbb)
  rw [HV.out.trans (if_pos rfl)]
  clear HV h0 h1
  subst hW
  go_enter Tryz.func21, Tryz.ntmps21
  go_wp2_with (go_at_call 39; refine HC.out.mono ?_; rintro e w2 hd; have D2 := Lib.hid (fdone_from C hbox.out hd); obtain ⟨rfl, _⟩ := hd)
  go_ret
  exact D2.out
 have k2 : (kd == 2) = false := beq_eq_false_iff_ne.2 h2
 have HV := Lib.hid (HV.out.trans (if_neg h2))
 by_cases h3 : kd = 3
 ·subst h3
  have HC := Lib.hid (C.append W F f st k pp p1 n1 c1 bb F1.out hg hk M1.out (by omega) R1.out IN1.out hbl hbb)
  rw [HV.out.trans (if_pos rfl)]
  clear HV h0 h1 h2
  subst hW
  go_enter Tryz.func21, Tryz.ntmps21
  go_wp2_with (go_at_call 66; refine HC.out.mono ?_; rintro e w2 hd; have D2 := Lib.hid (fdone_from C hbox.out hd); obtain ⟨rfl, _⟩ := hd)
  go_ret
  exact D2.out
 have k3 : (kd == 3) = false := beq_eq_false_iff_ne.2 h3
 have HV := Lib.hid (HV.out.trans (if_neg h3))
 by_cases h4 : kd = 4
 ·subst h4
  have HC := Lib.hid (C.trunc W F f st k pp nn F1.out hg hk M1.out (by omega) hnw)
  rw [HV.out.trans (if_pos rfl)]
  clear HV h0 h1 h2 h3
  subst hW
  go_enter Tryz.func21, Tryz.ntmps21
  go_wp2_with (go_at_call 67; refine HC.out.mono ?_; rintro e w2 hd; have D2 := Lib.hid (fdone_from C hbox.out hd); obtain ⟨rfl, _⟩ := hd)
  go_ret
  exact D2.out
 have k4 : (kd == 4) = false := beq_eq_false_iff_ne.2 h4
 have HV := Lib.hid (HV.out.trans (if_neg h4))
 by_cases h5 : kd = 5
 ·subst h5
  have HC := Lib.hid (C.rename W F f st k pp qq F1.out hg hk M1.out (by omega) (by omega))
  rw [HV.out.trans (if_pos rfl)]
  clear HV h0 h1 h2 h3 h4
  subst hW
  go_enter Tryz.func21, Tryz.ntmps21
  go_wp2_with (go_at_call 35; refine HC.out.mono ?_; rintro e w2 hd; have D2 := Lib.hid (fdone_from C hbox.out hd); obtain ⟨rfl, _⟩ := hd)
  go_ret
  exact D2.out
 have k5 : (kd == 5) = false := beq_eq_false_iff_ne.2 h5
 have HV := Lib.hid (HV.out.trans (if_neg h5))
 by_cases h6 : kd = 6
 ·subst h6
  have HC := Lib.hid (C.unlink W F f st k pp F1.out hg hk M1.out (by omega))
  rw [HV.out.trans (if_pos rfl)]
  clear HV h0 h1 h2 h3 h4 h5
  subst hW
  go_enter Tryz.func21, Tryz.ntmps21
  go_wp2_with (go_at_call 43; refine HC.out.mono ?_; rintro e w2 hd; have D2 := Lib.hid (fdone_from C hbox.out hd); obtain ⟨rfl, _⟩ := hd)
  go_ret
  exact D2.out
 have k6 : (kd == 6) = false := beq_eq_false_iff_ne.2 h6
 have HV := Lib.hid (HV.out.trans (if_neg h6))
 rw [HV.out]
 have k7 : (kd == 7) = false := beq_eq_false_iff_ne.2 h7
 clear HV h0 h1 h2 h3 h4 h5 h6 h7
 subst hW
 go_enter Tryz.func21, Tryz.ntmps21
 go_wp2_with fail
 go_ret
 exact fdone_same C HF.out hbox.out _
end fs
namespace fs
set_option maxRecDepth 100000
open Go.ChangeShapes Go.WideShapes Go.ChangeAt Go.RowKit
open rows
open sec
open dsk (St Wr barrier)
open ly
open pa
open lk
open al
theorem good_more {st : St} {k m : Nat} (h : st.good k) (hm : k ≤ m) : st.good m :=
 ⟨h.ss, h.n1, h.ws, h.es, Nat.le_trans h.wn hm, Nat.le_trans h.ln hm, h.bn, ⟨h.ep.1, by have := h.ep.2; omega⟩, ⟨h.asked.1, by have := h.asked.2; omega⟩⟩
theorem doR_good {st : St} {k : Nat} (h : st.good k) (ws : List Wr) (hw : ∀ x ∈ ws, Sec x.s) (hl : ws.length ≤ 5) : (doR st ws).2.good (k + 10) := good_more (do_good hw h) (by omega)
theorem barrier_good {st : St} {k : Nat} (h : st.good k) : (barrier st).2.good (k + 1) := by
 unfold barrier
 split
 ·exact ⟨h.ss, h.n1, h.ws, h.es, by have := h.wn; show st.wait.length ≤ k + 1; omega, by have := h.ln; show st.log.length ≤ k + 1; omega, h.bn, ⟨h.ep.1, by have := h.ep.2; show st.ep ≤ ((k + 1 : Nat) : Int); omega⟩, ⟨by have := h.asked.1; show 0 ≤ st.asked + 1; omega, by have := h.asked.2; show st.asked + 1 ≤ ((k + 1 : Nat) : Int); omega⟩⟩
 ·refine ⟨h.ss, h.n1, h.ws, fun e he => ?_, by have := h.wn; show st.wait.length ≤ k + 1; omega, by have := h.ln; simp; omega, h.bn, ⟨by have := h.ep.1; show 0 ≤ st.ep + 1; omega, by have := h.ep.2; show st.ep + 1 ≤ ((k + 1 : Nat) : Int); omega⟩, ⟨by have := h.asked.1; show 0 ≤ st.asked + 1; omega, by have := h.asked.2; show st.asked + 1 ≤ ((k + 1 : Nat) : Int); omega⟩⟩
  rcases List.mem_append.1 he with he | he
  ·exact h.es e he
  ·rw [List.mem_singleton.1 he]; exact ⟨by show Sec dsk.w0.s; exact sec_zero, by simp⟩
theorem moveR_good {st : St} {k : Nat} (h : st.good k) (x y : Wr) (hx : Sec x.s) (hy : Sec y.s) : (moveR st x y).2.good (k + 10) := by
 have h1 : (doR st [x]).2.good (k + 1) := do_good (ws := [x]) (fun z hz => by rw [List.mem_singleton.1 hz]; exact hx) h
 have h2 := barrier_good h1
 have h3 : (doR (barrier (doR st [x]).2).2 [y]).2.good (k + 1 + 1 + 1) := do_good (ws := [y]) (fun z hz => by rw [List.mem_singleton.1 hz]; exact hy) h2
 unfold moveR
 split
 ·exact good_more h1 (by omega)
 ·split
  ·exact good_more h2 (by omega)
  ·exact good_more h3 (by omega)
theorem make_good {st : St} {k : Nat} (h : st.good k) (s : ByteArray) (kind : Int) : (makeV st s kind).2.good (k + 10) := by
 have h0 := good_more h (show k ≤ k + 10 by omega)
 unfold makeV
 split
 ·exact h0
 ·split
  ·exact h0
  ·split
   ·exact doR_good h _ (fun x hx => by
     rcases List.mem_cons.1 hx with rfl | hx
     ·exact inoV_sec rfl
     ·rw [List.mem_singleton.1 hx]; exact entV_sec _) (by simp)
   ·exact h0
theorem trunc_good {st : St} {k : Nat} (h : st.good k) (s : ByteArray) (z : Int) : (truncV st s z).2.good (k + 10) := by
 have h0 := good_more h (show k ≤ k + 10 by omega)
 have hs := good_secs h
 unfold truncV
 split
 ·exact h0
 ·split
  ·exact h0
  ·split
   ·exact h0
   ·rename_i hz _
    refine doR_good h _ (fun x hx => by
     rw [List.mem_singleton.1 hx]
     refine inoV_sec ?_
     have h4 := file_four hs s
     have hn : need z.toNat ≤ 4 := by
      by_cases he : (fileV (nowL st) s).2.2 = 0
      ·have h1 := (file_is hs s he).1
       have h2 := ino_sizes (ss := nowL st) (fileV (nowL st) s).1
       rw [← h1] at h2
       exact need_le (by omega)
      ·rename_i hne _
       exact absurd he (by assumption)
     show (cutB (fileV (nowL st) s).2.1.b (need z.toNat)).length = 4
     unfold cutB
     rw [List.length_append, List.length_take, List.length_replicate, h4]; omega) (by simp)
theorem unlink_good {st : St} {k : Nat} (h : st.good k) (s : ByteArray) : (unlinkV st s).2.good (k + 10) := by
 have h0 := good_more h (show k ≤ k + 10 by omega)
 unfold unlinkV
 split
 ·exact h0
 ·split
  ·exact h0
  ·split
   ·exact h0
   ·exact doR_good h _ (fun x hx => by rw [List.mem_singleton.1 hx]; exact entV_sec _) (by simp)
theorem rename_good {st : St} {k : Nat} (h : st.good k) (s u : ByteArray) : (renameV st s u).2.good (k + 10) := by
 have h0 := good_more h (show k ≤ k + 10 by omega)
 unfold renameV
 simp only
 repeat' split
 all_goals first
  | exact h0
  | exact moveR_good h _ _ (entV_sec _) (entV_sec _)
  | exact doR_good h _ (fun x hx => by rw [List.mem_singleton.1 hx]; exact entV_sec _) (by simp)
theorem blksW_fewS {L : List (List Int)} {n : Int} {y : Ino} {had off : Nat} {b : List Int} : (blksW L n y had off b 4).length ≤ 4 := by
 unfold blksW
 rw [List.length_map]
 exact Nat.le_trans (List.length_filter_le ..) (by simp)
theorem write_goodA {st : St} {k : Nat} (h : st.good k) (s : ByteArray) (off : Int) (b : List Int) (hb : ∀ z ∈ b, 0 ≤ z ∧ z < 256) : (writeFV st s off b).2.good (k + 10) := by
 have h0 := good_more h (show k ≤ k + 10 by omega)
 have hs := good_secs h
 unfold writeFV
 simp only
 split
 ·exact h0
 ·split
  ·exact h0
  ·split
   ·exact h0
   ·split
    ·exact h0
    ·rename_i g1 g2 g3 g4
     refine doR_good h _ (fun x hx => ?_) ?_
     ·rcases List.mem_append.1 hx with hx | hx
      ·unfold blksW at hx
       obtain ⟨i, _, rfl⟩ := List.mem_map.1 hx
       refine putL_sec ?_ hb _ _
       split
       ·exact secAt_list hs _
       ·exact sec_zero
      ·split at hx
       ·cases hx
       ·rw [List.mem_singleton.1 hx]
        refine inoV_sec ?_
        have he : (fileV (nowL st) s).2.2 = 0 := Decidable.not_not.1 g1
        have h1 := (file_is hs s he).1
        have h2 := ino_sizes (ss := nowL st) (fileV (nowL st) s).1
        rw [← h1] at h2
        have h4 := file_four hs s
        have hB : blkB (nowL st) (((need (max (fileV (nowL st) s).2.1.size (off + b.length)).toNat : Nat) : Int) - (need (fileV (nowL st) s).2.1.size.toNat : Nat)) = true := by simpa using g4
        have hn1 := need_le (z := (max (fileV (nowL st) s).2.1.size (off + b.length)).toNat) (by omega)
        have hB2 := hB
        rw [blkB, decide_eq_true_eq] at hB2
        show ((fileV (nowL st) s).2.1.b.take (need (fileV (nowL st) s).2.1.size.toNat) ++ blkL (nowL st) _ ++ (fileV (nowL st) s).2.1.b.drop (need (fileV (nowL st) s).2.1.size.toNat + (blkL (nowL st) _).length)).length = 4
        rw [blkL, if_pos hB, List.length_append, List.length_append, List.length_take, List.length_drop, ofNats_len, List.length_take, h4]
        omega
     ·rw [List.length_append]
      have := blksW_fewS (L := nowL st) (n := (fileV (nowL st) s).1) (y := grownI (fileV (nowL st) s).2.1 off.toNat b.length (blkL (nowL st) (((need (max (fileV (nowL st) s).2.1.size (off + b.length)).toNat : Nat) : Int) - (need (fileV (nowL st) s).2.1.size.toNat : Nat)))) (had := need (fileV (nowL st) s).2.1.size.toNat) (off := off.toNat) (b := b)
      split <;> simp <;> omega
theorem append_goodA {st : St} {k : Nat} (h : st.good k) (s : ByteArray) (b : List Int) (hb : ∀ z ∈ b, 0 ≤ z ∧ z < 256) : (appendV st s b).2.good (k + 10) := by
 unfold appendV
 split
 ·exact good_more h (by omega)
 ·exact write_goodA h s _ b hb
theorem fdo_good {st : St} {k : Nat} (h : st.good k) (a : FAct) (hb : ∀ z ∈ a.b, 0 ≤ z ∧ z < 256) : (fDo st a).2.good (k + 10) := by
 unfold fDo
 repeat' split
 all_goals first
  | exact make_good h _ _
  | exact write_goodA h _ _ _ hb
  | exact append_goodA h _ _ hb
  | exact trunc_good h _ _
  | exact rename_good h _ _
  | exact unlink_good h _
  | exact good_more h (by omega)
structure AX where
 a : FAct
 p1 : Option Addr
 n1 : Nat
 c1 : Nat
 p2 : Option Addr
 n2 : Nat
 c2 : Nat
abbrev AX.c (x : AX) : List Value := [.int .i64 x.a.kind, .string x.a.p, .string x.a.q, .int .i64 x.a.n, .slice x.p1 x.n1 x.c1, .slice x.p2 x.n2 x.c2]
theorem info_act : (Tryz.prog.info? 41).map (·.size) = some 6 := by kernel_rfl
end fs
namespace fs
set_option maxRecDepth 100000
open Go.ChangeShapes Go.WideShapes Go.ChangeAt Go.RowKit
open rows
open sec
open dsk (wf64)
open ly
open pa
open lk
open al
structure AX.ok (W : World) (x : AX) : Prop where
 kind : wf64 x.a.kind
 n : wf64 x.a.n
 p : x.a.p.size ≤ maxLen
 q : x.a.q.size ≤ maxLen
 bl : x.a.b.length = x.n1
 bm : x.n1 ≤ maxLen
 bb : ∀ z ∈ x.a.b, 0 ≤ z ∧ z < 256
 rd : Rd W 1 (.slice x.p1 x.n1 x.c1) x.n1 (x.a.b.map (Value.int .u8))
 fm : x.n2 ≤ maxLen
theorem cellsActF : Tryz.prog.cellsOf 41 = 6 := by kernel_rfl
theorem und_actF : Tryz.prog.underlying 41 = some (.struct (Tryz.prog.fieldsOf 41)) := by kernel_rfl
theorem fields_actF : (Tryz.prog.fieldsOf 41).toList.map (fun f => (f.type, f.offset)) = [(3, 0), (9, 1), (9, 2), (3, 3), (38, 4), (39, 5)] := by kernel_rfl
theorem und_intF : Tryz.prog.underlying 3 = some (.int .i64) := by kernel_rfl
theorem und_u8F : Tryz.prog.underlying 5 = some (.int .u8) := by kernel_rfl
theorem und_strF : Tryz.prog.underlying 9 = some .string := by kernel_rfl
theorem und_bsF : Tryz.prog.underlying 38 = some (.slice 5) := by kernel_rfl
theorem und_isF : Tryz.prog.underlying 39 = some (.slice 3) := by kernel_rfl
theorem und_actsF : Tryz.prog.underlying 23 = some (.slice 41) := by kernel_rfl
theorem cellsIntF : Tryz.prog.cellsOf 3 = 1 := by kernel_rfl
theorem cellsU8F : Tryz.prog.cellsOf 5 = 1 := by kernel_rfl
theorem cellsStrF : Tryz.prog.cellsOf 9 = 1 := by kernel_rfl
theorem cellsBsF : Tryz.prog.cellsOf 38 = 1 := by kernel_rfl
theorem cellsIsF : Tryz.prog.cellsOf 39 = 1 := by kernel_rfl
theorem wf_u8F {n : Int} (h : (Lit.int .u8 n).wf = true) : 0 ≤ n ∧ n < 256 := by
 have : 0 ≤ n ∧ n ≤ 255 := by simpa [Lit.wf, IntKind.min, IntKind.max, IntKind.signed, IntKind.bits] using h
 omega
theorem cut_pieceF {α : Type} (cs : List α) (n m : Nat) : (cs.drop n).take m ++ cs.drop (n + m) = cs.drop n := by
 rw [← List.drop_drop, List.take_append_drop]
theorem u8_flatF (l : List Int) : (l.map fun a => [Value.int .u8 a]).flatten = l.map (Value.int .u8) := by
 induction l with
 | nil => rfl
 | cons a t ih => simp at ih ⊢; exact ih
section
variable {H : Type} {enc : TypeId × Value → H} {W : World} {base : Nat} {spare : Nat → Bool} {held : Bool}
theorem field_trodF {T : TypeId} {fs : Array Field} (ht : Tryz.prog.underlying T = some (.struct fs)) {L : List (TypeId × Nat)} (hL : fs.toList.map (fun f => (f.type, f.offset)) = L) {fuel : Nat} {cs : List Value} {x : DataW H × List MemPlace}
  (h : DataW.trod enc Tryz.prog W base spare held fuel T cs = some x) : cs.length = Tryz.prog.cellsOf T ∧ ∀ (i : Nat) (ty : TypeId) (off : Nat), L[i]? = some (ty, off) → ∃ n y, DataW.trod enc Tryz.prog W base spare held n ty ((cs.drop off).take (Tryz.prog.cellsOf ty)) = some y := by
 obtain ⟨xs, n, _, _, hl, hx, hf⟩ := DataW.trod_struct ht h
 refine ⟨hl, fun i ty off hi => ?_⟩
 rw [← hL, List.getElem?_map] at hi
 cases hq : fs[i]? with
 | none => simp [hq] at hi
 | some f =>
  have h1 : (f.type, f.offset) = (ty, off) := by simpa [hq] using hi
  have h2 := hf i f hq
  have hix : i < xs.length := by rw [hx]; exact (Array.getElem?_eq_some_iff.1 hq).1
  rw [List.getElem?_eq_getElem hix] at h2
  cases h1
  exact ⟨n, _, h2⟩
theorem act_of_cellsF {n : Nat} {cs : List Value} {x : DataW H × List MemPlace} (h : DataW.trod enc Tryz.prog W base spare held n 41 cs = some x) : ∃ a : AX, a.ok W ∧ cs = a.c := by
 obtain ⟨hl, hf⟩ := field_trodF und_actF fields_actF h
 rw [cellsActF] at hl
 obtain ⟨_, _, h0⟩ := hf 0 _ _ rfl
 obtain ⟨_, _, h1⟩ := hf 1 _ _ rfl
 obtain ⟨_, _, h2⟩ := hf 2 _ _ rfl
 obtain ⟨_, _, h3⟩ := hf 3 _ _ rfl
 obtain ⟨_, _, h4⟩ := hf 4 _ _ rfl
 obtain ⟨_, _, h5⟩ := hf 5 _ _ rfl
 rw [cellsIntF] at h0 h3
 rw [cellsStrF] at h1 h2
 rw [cellsBsF] at h4
 rw [cellsIsF] at h5
 obtain ⟨kd, e0, _, wkd⟩ := DataW.trod_int und_intF h0
 obtain ⟨s, e1, _, ws⟩ := DataW.trod_string und_strF h1
 obtain ⟨u, e2, _, wu⟩ := DataW.trod_string und_strF h2
 obtain ⟨z, e3, _, wz⟩ := DataW.trod_int und_intF h3
 obtain ⟨p4, l4, c4, bs, e4, hg4, hl4, hr4, hm4⟩ := open_slice (fun a : Int => [Value.int .u8 a]) (by decide) und_bsF cellsU8F (fun a : Int => 0 ≤ a ∧ a < 256) (fun _ _ => rfl) (fun _ _ _ h => by
  obtain ⟨a, ha, _, wa⟩ := DataW.trod_int und_u8F h
  exact ⟨a, wf_u8F wa, ha⟩) h4
 obtain ⟨p5, l5, c5, zs, e5, _, hl5, hr5, hm5⟩ := open_slice (fun a : Int => [Value.int .i64 a]) (by decide) und_isF cellsIntF wf64 (fun _ _ => rfl) (fun _ _ _ h => by
  obtain ⟨a, ha, _, wa⟩ := DataW.trod_int und_intF h
  exact ⟨a, wa, ha⟩) h5
 rw [u8_flatF] at hr4
 refine ⟨⟨⟨kd, s, u, z, bs, zs⟩, p4, l4, c4, p5, l5, c5⟩, ⟨wkd, wz, ws, wu, hl4, hm4, hg4, hr4, hm5⟩, ?_⟩
 have q0 := cut_pieceF cs 0 1
 have q1 := cut_pieceF cs 1 1
 have q2 := cut_pieceF cs 2 1
 have q3 := cut_pieceF cs 3 1
 have q4 := cut_pieceF cs 4 1
 have q5 := cut_pieceF cs 5 1
 rw [e0] at q0
 rw [e1] at q1
 rw [e2] at q2
 rw [e3] at q3
 rw [e4] at q4
 rw [e5, List.drop_of_length_le (i := 5 + 1) (by omega), List.append_nil] at q5
 simp only [Nat.reduceAdd] at q0 q1 q2 q3 q4
 rw [List.drop_zero, ← q1, ← q2, ← q3, ← q4, ← q5] at q0
 rw [← q0]
 rfl
theorem facts_of_trod {p : Option Addr} {len cap : Nat} {d : DataW H} {ps : List MemPlace}
  (h : DataW.Trod enc Tryz.prog W 0 (fun _ => true) true 23 (.slice p len cap) d ps) : ∃ l : List AX, (∀ a ∈ l, a.ok W) ∧ l.length = len ∧ Rd W 6 (.slice p len cap) len ((l.map AX.c).flatten) ∧ len ≤ maxLen := by
 obtain ⟨fuel, hf⟩ := h
 obtain ⟨p', len', cap', l, hcs, hg, hl, hr, hm⟩ := open_slice AX.c (by decide) und_actsF cellsActF (fun a => a.ok W) (fun a ha => rfl) (fun _ _ _ h => act_of_cellsF h) hf
 simp [Value.cells] at hcs
 obtain ⟨rfl, rfl, rfl⟩ := hcs
 exact ⟨l, hg, hl, hr, hm⟩
end
def AX.light (x : AX) : Prop := x.a.p.size ≤ 100 ∧ x.a.q.size ≤ 100 ∧ x.n1 ≤ 300 ∧ x.n2 ≤ 30
theorem AX.actIn {W : World} {x : AX} (h : x.ok W) (hl : x.light) : ActIn W x.a (.slice x.p1 x.n1 x.c1) (.slice x.p2 x.n2 x.c2) :=
 ⟨h.kind, h.n, hl.1, hl.2.1, by rw [h.bl]; exact hl.2.2.1, h.bb, by rw [h.bl]; exact h.rd⟩
def FLightPost (n m : Nat) (l : List AX) (w : World) (e : Ending) (w' : World) : Prop := ∃ b : Bool, e = .returned (.bool b) ∧ w = w' ∧ (b = true → n ≤ m ∧ ∀ a ∈ l, a.light)
theorem ax_parts {w : World} {x : AX} {b o : Nat} (hr : w.rangeAt b o x.c) : w.cell? ⟨b, o + 1, none⟩ = some (.string x.a.p) ∧ w.cell? ⟨b, o + 2, none⟩ = some (.string x.a.q) ∧ w.cell? ⟨b, o + 4, none⟩ = some (.slice x.p1 x.n1 x.c1) ∧ w.cell? ⟨b, o + 5, none⟩ = some (.slice x.p2 x.n2 x.c2) :=
 ⟨hr 1 _ rfl, hr 2 _ rfl, hr 4 _ rfl, hr 5 _ rfl⟩
set_option maxHeartbeats 1600000 in
theorem flight_any {W : World} (p : Option Addr) (n c m : Nat) (l : List AX) (w : World) (hm0 : m ≤ 99) (hw : Below W.heap.size W w) (hg : ∀ a ∈ l, a.ok W) (hr : Rd W 6 (.slice p n c) n ((l.map AX.c).flatten)) (hm : n ≤ maxLen) :
  Calls Tryz.prog 6 #[.slice p n c, .int .i64 (m : Int)] w (FLightPost n m l w) := by
 have hle : ∀ a ∈ l, a.c.length = 6 := fun a ha => rfl
 have HZ : Hid (l.length = n) := Lib.hid (dsk.Rd.count AX.c hr hle (by decide))
 have HR := Lib.hid hr
 have HLE := Lib.hid hle
 have HG := Lib.hid hg
 have hm2 : (n : Int) ≤ 9223372036854775807 := by unfold maxLen at hm; omega
 clear hr hle hg
 go_enter Tryz.func6, Tryz.ntmps6
 go_wp2
 go_loop [5] (fun iv => ∃ (j : Nat), j ≤ n ∧ j ≤ 100 ∧ Hid (∀ i (h : i < l.length), i < j → l[i].light) ∧ iv = .int .i64 (j : Int)) (fun iv => n - (intOf iv).toNat)
 case atStart => exact ⟨0, by omega, by omega, Lib.hid (fun _ _ h => by omega), rfl⟩
 case round =>
  obtain ⟨j, hj, hj2, HL, rfl⟩ := hrel
  by_cases ha : j < n
  ·have ha1 : (j:Int) < n := by omega
   by_cases hb : j < 100
   ·have hb1 : decide ((j:Int) < 100) = true := by simp; omega
    have hjl : j < l.length := by rw [HZ.out]; exact ha
    obtain ⟨b1, o1, rfl, hc1, hm1, hh1, hl1, HR1⟩ := dsk.Rd.chunk AX.c HR.out HLE.out (by decide) ha
    have hok := HG.out _ (List.getElem_mem hjl)
    obtain ⟨hP, hQ, hB, hF⟩ := ax_parts (Rd.rangeLater (HR1 j hjl) hh1 hw)
    have HLL : Hid (l[j].light → ∀ i (h : i < l.length), i < j + 1 → l[i].light) := Lib.hid (fun hq i h hi => by
     rcases Nat.lt_or_ge i j with h1 | h1
     ·exact HL.out i h h1
     ·obtain rfl : i = j := by omega
      exact hq)
    obtain ⟨x, hx⟩ : ∃ x, l[j] = x := ⟨_, rfl⟩
    rw [hx] at hP hQ hB hF hok
    have HX := Lib.hid hx
    clear hx HR1 hl1
    obtain ⟨⟨kd, s, u, z, bs, zs⟩, p1, n1, c1, p2, n2, c2⟩ := x
    have m1 : s.size ≤ maxLen := hok.p
    have m2 : u.size ≤ maxLen := hok.q
    have m3 : n1 ≤ maxLen := hok.bm
    have m4 : n2 ≤ maxLen := hok.fm
    clear hok
    unfold maxLen at m1 m2 m3 m4
    simp only [] at hP hQ hB hF
    by_cases h1 : s.size ≤ 100
    ·have d1 : decide ((100:Int) < s.size) = false := by simp; omega
     by_cases h2 : u.size ≤ 100
     ·have d2 : decide ((100:Int) < u.size) = false := by simp; omega
      by_cases h3 : n1 ≤ 300
      ·have d3 : decide ((300:Int) < n1) = false := by simp; omega
       by_cases h4 : n2 ≤ 30
       ·have d4 : decide ((30:Int) < n2) = false := by simp; omega
        go_wp2_with fail
        go_round
        case rel => exact ⟨j + 1, by omega, by omega, Lib.hid (HLL.out (by rw [HX.out]; exact ⟨h1, h2, h3, h4⟩)), by go_num⟩
        case measure => simp [intOf]; omega
       ·have d4 : decide ((30:Int) < n2) = true := by simp; omega
        go_wp2_with fail
        go_ret
        exact ⟨false, rfl, rfl, by simp⟩
      ·have d3 : decide ((300:Int) < n1) = true := by simp; omega
       go_wp2_with fail
       go_ret
       exact ⟨false, rfl, rfl, by simp⟩
     ·have d2 : decide ((100:Int) < u.size) = true := by simp; omega
      go_wp2_with fail
      go_ret
      exact ⟨false, rfl, rfl, by simp⟩
    ·have d1 : decide ((100:Int) < s.size) = true := by simp; omega
     go_wp2_with fail
     go_ret
     exact ⟨false, rfl, rfl, by simp⟩
   ·have hb1 : decide ((j:Int) < 100) = false := by simp; omega
    have hn : decide ((n:Int) ≤ m) = false := by simp; omega
    have hn2 : decide (n ≤ m) = false := by simp; omega
    go_wp2_with fail
    go_ret
    exact ⟨false, rfl, rfl, by simp⟩
  ·by_cases hn : n ≤ m
   ·have hn1 : decide ((n:Int) ≤ m) = true := by simp; omega
    have hn2 : decide (n ≤ m) = true := by simp; omega
    go_wp2_with fail
    go_ret
    exact ⟨true, rfl, rfl, fun _ => ⟨hn, fun a ham => by
     obtain ⟨i, hi, rfl⟩ := List.getElem_of_mem ham
     exact HL.out i hi (by have := HZ.out; omega)⟩⟩
   ·have hn1 : decide ((n:Int) ≤ m) = false := by simp; omega
    have hn2 : decide (n ≤ m) = false := by simp; omega
    go_wp2_with fail
    go_ret
    exact ⟨false, rfl, rfl, by simp⟩
end fs
namespace fs
set_option maxRecDepth 100000
open Go.ChangeShapes Go.WideShapes Go.ChangeAt Go.RowKit
open rows
open sec
open dsk (grow St CA cfrom_yes st0)
open ly
open pa
open lk
open al
structure SfsHas (FI : Value → World → (Nat → Prop) → Value → dsk.St → Prop) : Prop where
 mount : ∀ (w : World) (F : Nat → Prop) (d : Value) (st : dsk.St) (k : Nat), CA w F d st → st.good k → k ≤ 880 → mountV st = 0 → Calls Tryz.prog 10 #[d] w fun e w' => ∃ ad, e = .returned (.tuple #[.pointer (some ad), .int .i64 0]) ∧ FI d w' (grow F w w') (.pointer (some ad)) st ∧ Below w.heap.size w w'
 disk : ∀ (d : Value) (w : World) (F : Nat → Prop) (f : Value) (st : dsk.St) (k : Nat), FI d w F f st → st.good k → k ≤ 880 → Calls Tryz.prog 31 #[f] w fun e w' => e = .returned d ∧ w' = w
 code : ∀ (d : Value) (w : World) (F : Nat → Prop) (f : Value) (st : dsk.St), FI d w F f st → CA w F d st
theorem empty_mountsF : mountsB emptyImg = true := by kernel_rfl
theorem now_st0 (ss : List (List Int)) : nowL (st0 ss) = ss := rfl
theorem good_st0 {ss : List (List Int)} (hs : Secs ss) (hl : ss.length ≤ 65) : (st0 ss).good 0 :=
 ⟨hs, hl, fun x hx => (by cases hx), fun x hx => (by cases hx), Nat.le_refl _, Nat.le_refl _, Nat.zero_le _, ⟨Int.le_refl _, Int.le_refl _⟩, ⟨Int.le_refl _, Int.le_refl _⟩⟩
theorem sound_fresh : Sound (st0 emptyImg) := ⟨rfl, emptyImg_len, by rw [now_st0]⟩
theorem mount_fresh : mountV (st0 emptyImg) = 0 := by
 unfold mountV
 rw [now_st0, empty_mountsF, if_neg (show ¬ (st0 emptyImg).safe.length = 0 by show ¬ emptyImg.length = 0; rw [emptyImg_len]; decide), if_pos rfl]
set_option maxRecDepth 100000 in
theorem fresh_any {FI : Value → World → (Nat → Prop) → Value → dsk.St → Prop} (C : ∀ d, SfsIs (FI d)) (D : SfsHas FI) (w : World) (p : Option Addr) (c : Nat) (hr : Rd w 32 (.slice p 65 c) 65 (cellsOf emptyImg)) :
  Calls Tryz.prog 26 #[.slice p 65 c] w fun e w' => ∃ ad d, e = .returned (.pointer (some ad)) ∧ FI d w' (fun b => w.heap.size ≤ b ∧ b < w'.heap.size) (.pointer (some ad)) (st0 emptyImg) ∧ Below w.heap.size w w' := by
 have HF := Lib.hid (cfrom_yes w p 65 c emptyImg emptyImg_secs hr (by decide) (by decide))
 have HM := Lib.hid fun w1 F d (h : CA w1 F d (st0 emptyImg)) => D.mount w1 F d (st0 emptyImg) 0 h (good_st0 emptyImg_secs (Nat.le_of_eq emptyImg_len)) (by decide) mount_fresh
 go_enter Tryz.func26, Tryz.ntmps26
 go_wp2_with (first | (go_at_call 8; refine HF.out.mono ?_; rintro e w1 ⟨ad, rfl, hc, hb⟩; have HC := Lib.hid hc; have B1 := Lib.hid hb; clear hc hb) | (go_at_call 10; refine (HM.out _ _ _ HC.out).mono ?_; rintro e w2 ⟨af, rfl, hf, hb⟩; have HFI := Lib.hid hf; have B2 := Lib.hid hb; clear hf hb))
 go_ret
 have h1 := B1.out
 have h2 := B2.out
 exact ⟨_, _, rfl, (C _).mono _ _ _ _ _ HFI.out (fun b hb => by
  have s1 := h1.size
  have s2 := h2.size
  rcases hb with hb | hb <;> omega), below_trans h1 h2⟩
end fs
namespace fs
set_option maxRecDepth 100000
open Go.ChangeShapes Go.WideShapes Go.ChangeAt Go.RowKit
open rows
open sec
open dsk (Keeps grow St)
open ly
open pa
open lk
open al
theorem TAt.kept {w w' : World} {F : Nat → Prop} {g : Nat} {t : List Nd} {v : Value} (h : TAt w F g t v) (k : Keeps F w w') : TAt w' F g t v := by
 refine ⟨(k.2 g h.lt h.inF).trans h.row, ⟨h.own.1, ?_⟩, h.inS, h.inF⟩
 rcases h.own.2 with h2 | ⟨b, cap, cur, hv, h3, h4, h5⟩
 ·exact Or.inl h2
 ·exact Or.inr ⟨b, cap, cur, hv, h3, (k.2 b (Array.getElem?_eq_some_iff.1 h4).1 ((h.inS _ _ _ hv).1)).trans h4, h5⟩
structure LAt (FI : World → (Nat → Prop) → Value → dsk.St → Prop) (lo g : Nat) (f : Value) (w : World) (F G : Nat → Prop) (st : dsk.St) (t : List Nd) (v : Value) (m : Nat) : Prop where
 fi : FI w F f st
 tr : TAt w G g t v
 inv : Inv (nowL st) t
 sound : Sound st
 good : st.good m
 inF : ∀ b, F b → lo ≤ b ∧ b < w.heap.size
 inG : ∀ b, G b → lo ≤ b ∧ b < w.heap.size
 apart : ∀ b, F b → ¬ G b
theorem LAt.later {FI : World → (Nat → Prop) → Value → dsk.St → Prop} (C : SfsIs FI) {lo g : Nat} {f : Value} {w w' : World} {F G : Nat → Prop} {st : dsk.St} {t : List Nd} {v : Value} {m : Nat} (h : LAt FI lo g f w F G st t v m) (hb : Below w.heap.size w w') : LAt FI lo g f w' F G st t v m :=
 ⟨C.later h.fi hb, h.tr.later hb, h.inv, h.sound, h.good, fun b hF => ⟨(h.inF b hF).1, Nat.lt_of_lt_of_le (h.inF b hF).2 hb.size⟩, fun b hG => ⟨(h.inG b hG).1, Nat.lt_of_lt_of_le (h.inG b hG).2 hb.size⟩, h.apart⟩
theorem LAt.mid {FI : World → (Nat → Prop) → Value → dsk.St → Prop} {lo g : Nat} {f : Value} {w w1 : World} {F G : Nat → Prop} {st : dsk.St} {t : List Nd} {v : Value} {m : Nat} (h : LAt FI lo g f w F G st t v m) {r : Int × dsk.St} {e : Ending} (D : FDone FI F f w r e w1) : TAt w1 G g t v :=
 h.tr.kept (D.2.2.keeps fun b hG hF => h.apart b hF hG)
theorem LAt.next {FI : World → (Nat → Prop) → Value → dsk.St → Prop} (C : SfsIs FI) {lo g : Nat} {f : Value} {w w1 w2 : World} {F G : Nat → Prop} {st : dsk.St} {t : List Nd} {v : Value} {m : Nat} (h : LAt FI lo g f w F G st t v m) (hlo : lo ≤ w.heap.size) {a : FAct} (ha : ∀ z ∈ a.b, 0 ≤ z ∧ z < 256) {e e2 : Ending}
  (D : FDone FI F f w (fDo st a) e w1) (T : TDone G g w1 (tDo t a) e2 w2) : (tDo t a).1 = (fDo st a).1 ∧ ∃ v', LAt FI lo g f w2 (grow F w w1) (grow G w1 w2) (fDo st a).2 (tDo t a).2 v' (m + 10) := by
 obtain ⟨h1, h2, h3⟩ := act_inv h.sound h.inv a ha
 obtain ⟨_, d1, d2⟩ := D
 obtain ⟨_, ⟨v', t1⟩, t2⟩ := T
 have s1 := d2.size
 have s2 := t2.size
 refine ⟨h1, v', ?_, t1, h2, h3, fdo_good h.good a ha, fun b hb => ?_, fun b hb => ?_, fun b hb hc => ?_⟩
 ·refine C.kept _ _ _ _ _ d1 (t2.keeps fun b hb hG => ?_)
  rcases hb with hb | hb
  ·exact h.apart b hb hG
  ·have := (h.inG b hG).2; omega
 ·rcases hb with hb | hb
  ·have := h.inF b hb; omega
  ·omega
 ·rcases hb with hb | hb
  ·have := h.inG b hb; omega
  ·omega
 ·rcases hb with hb | hb
  ·rcases hc with hc | hc
   ·exact h.apart b hb hc
   ·have := (h.inF b hb).2; omega
  ·rcases hc with hc | hc
   ·have := (h.inG b hc).2; omega
   ·omega
end fs
namespace fs
set_option maxRecDepth 100000
open Go.ChangeShapes Go.WideShapes Go.ChangeAt Go.RowKit
open rows
open sec
open dsk (size_alloc St CA st0)
open ly
open pa
open lk
open al
theorem ld_actF {ops : Array Oper} {S : World → Prop} {op : Oper} {a : Go.Act} (hw : Region.wanted op (yielded ops a.tmps) = true) (x : Operand) (ho : op.op = .load 41 x)
  (b o : Nat) (hx : a.eval x = .pointer (some ⟨b, o, none⟩)) (kd : Int) (s u : ByteArray) (z : Int) (v1 v2 : Value) (hS : ∀ w, S w → w.rangeAt b o [.int .i64 kd, .string s, .string u, .int .i64 z, v1, v2]) : YieldsIf Tryz.prog ops S op (.agg #[.int .i64 kd, .string s, .string u, .int .i64 z, v1, v2]) a :=
 yieldsIf_load_mid hw _ x ho b o hx [.int .i64 kd, .string s, .string u, .int .i64 z, v1, v2] _ hS und_actF rfl (by rw [info_act]; rfl)
theorem tat_new (w : World) : TAt (w.alloc (.cells #[.slice none 0 0] 62)) (fun b => b = w.heap.size) w.heap.size [] (.slice none 0 0) := by
 exact ⟨heap_alloc_new _ _, ⟨rfl, Or.inl ⟨rfl, rfl⟩⟩, fun a n c hv => (by cases hv), rfl⟩
set_option maxRecDepth 100000 in
set_option maxHeartbeats 6400000 in
theorem tree_of {FI : Value → World → (Nat → Prop) → Value → dsk.St → Prop} (C : ∀ d, SfsIs (FI d)) (D : SfsHas FI) (HCn : ∀ (w : World) (d : Value) (ss : List (List Int)), Dk w d ss → Calls Tryz.prog 30 #[d] w fun e w' => e = .returned (.tuple #[.int .i64 (al.cntI ss : Int), .int .i64 (al.cntE ss : Int), .int .i64 (al.cntB ss : Int)]) ∧ Below w.heap.size w w')
  (w : World) (HKN : ∀ w', Below w.heap.size w w' → Calls Tryz.prog 7 #[] w' fun e w'' => e = .returned (.bool true) ∧ Below w'.heap.size w' w'')
  (p : Option Addr) (n c : Nat) (l : List AX) (hmx : Mx w) (hg : ∀ a ∈ l, a.ok w) (hr : Rd w 6 (.slice p n c) n ((l.map AX.c).flatten)) (hm : n ≤ maxLen) :
  Calls Tryz.prog 4 #[.slice p n c] w fun e w' => e = .returned (.bool true) ∧ Below w.heap.size w w' := by
 have HK := Lib.hid HKN
 have HLI := Lib.hid (flight_any p n c 40 l w (by decide) (Below.refl _ _) hg hr hm)
 have HMX := Lib.hid hmx
 have HG := Lib.hid hg
 have HR := Lib.hid hr
 have HC := Lib.hid C
 have HD := Lib.hid D
 have HCN := Lib.hid HCn
 have HNU := Lib.hid fun z w' => lnum_any z w'
 have hm9 : (n : Int) ≤ 9223372036854775807 := by unfold maxLen at hm; omega
 clear HKN hmx hg hr C D HCn
 go_enter Tryz.func4, Tryz.ntmps4
 go_wp2_with fail
 refine HLI.out.mono ?_
 rintro e w1 ⟨b, rfl, rfl, hb⟩
 clear HLI
 cases b with
 | false =>
  clear hb
  go_wp2_with (go_at_call 7; refine (HK.out _ (Below.refl _ _)).mono ?_; rintro e w2 ⟨rfl, hb2⟩)
  go_ret
  exact ⟨rfl, hb2⟩
 | true =>
  obtain ⟨hn40, hli⟩ := hb rfl
  have HLL := Lib.hid hli
  clear hb hli
  go_upto_region 8 with (first | (go_at_call 7; refine (HK.out _ (Below.refl _ _)).mono ?_; rintro e w2 ⟨rfl, hb2⟩; have B2 := Lib.hid hb2; clear hb2) | (go_at_call 27; refine (rempty_any _).mono ?_; rintro e w3 ⟨pe, ce, rfl, hre, hb3⟩; have RE := Lib.hid hre; have B3 := Lib.hid (below_trans B2.out hb3); clear hre hb3) | (go_at_call 26; refine (fresh_any HC.out HD.out _ _ _ RE.out).mono ?_; rintro e w4 ⟨af, d0, rfl, hf, hb4⟩; have HF := Lib.hid hf; have B4 := Lib.hid (below_trans B3.out hb4); have B34 := Lib.hid hb4; clear hf hb4))
  have HL0 : Hid (LAt (FI d0) w.heap.size w4.heap.size (.pointer (some af)) (w4.alloc (.cells #[.slice none 0 0] 62)) (fun b => w3.heap.size ≤ b ∧ b < w4.heap.size) (fun b => b = w4.heap.size) (st0 emptyImg) [] (.slice none 0 0) 0) := Lib.hid (by
   have s3 := B3.out.size
   have s4 := B34.out.size
   refine ⟨(HC.out d0).later HF.out (below_alloc (Below.refl _ _) _), tat_new w4, inv_empty, sound_fresh, good_st0 emptyImg_secs (Nat.le_of_eq emptyImg_len), fun b hb => ?_, fun b hb => ?_, fun b hb hc => ?_⟩
   ·rw [size_alloc]; omega
   ·rw [size_alloc]; omega
   ·omega)
  have BB0 := Lib.hid (below_alloc B4.out (.cells #[.slice none 0 0] 62))
  generalize w4.alloc (.cells #[.slice none 0 0] 62) = w5 at *
  generalize w4.heap.size = g at *
  generalize (fun b => w3.heap.size ≤ b ∧ b < g) = F0 at *
  generalize (fun b => b = g) = G0 at *
  generalize st0 emptyImg = s0 at *
  clear B2 B3 B4 B34 RE HF
  go_loopw [5] (fun iv wr => ∃ (i : Nat) (F G : Nat → Prop) (st : St) (t : List Nd) (v : Value), i ≤ n ∧ iv = .int .i64 (i : Int) ∧ Hid (LAt (FI d0) w.heap.size g (.pointer (some af)) wr F G st t v (10 * i)) ∧ Hid (Below w.heap.size w wr)) (fun iv _ => n - (intOf iv).toNat)
  case atStart => exact ⟨0, F0, G0, s0, [], .slice none 0 0, by omega, rfl, HL0, BB0⟩
  case round =>
   clear HL0 BB0
   obtain ⟨i, F, G, st, t, v, hi, rfl, HLA, HB⟩ := hrel
   by_cases hin : i < n
   ·have hin1 : (i:Int) < n := by omega
    have hil : i < l.length := by have := dsk.Rd.count AX.c HR.out (fun _ _ => rfl) (by decide); omega
    obtain ⟨b1, o1, rfl, hc1, hm1, hh1, hl1, HR1⟩ := dsk.Rd.chunk AX.c HR.out (fun _ _ => rfl) (by decide) hin
    have hmem := List.getElem_mem hil
    have HAI := Lib.hid (AX.actIn (HG.out _ hmem) (HLL.out _ hmem))
    have HWR := Lib.hid (Rd.rangeLater (HR1 i hil) hh1 HB.out)
    generalize l[i] = x at *
    obtain ⟨⟨kd, s, u, z, bs, zs⟩, p1, n1, c1, p2, n2, c2⟩ := x
    have hk0 : wr.cell? ⟨b1, o1 + i * 6, none⟩ = some (.int .i64 kd) := by have := HWR.out 0 _ rfl; simpa using this
    clear HR1 hl1 hmem
    by_cases h7 : kd = 7
    ·subst h7
     go_wp2_with fail
     have HLB := Lib.hid ({ HLA.out with good := good_more HLA.out.good (show 10 * i ≤ 10 * (i + 1) by omega) } : LAt (FI d0) w.heap.size g (.pointer (some af)) wr F G st t v (10 * (i + 1)))
     exact ⟨⟨i + 1, F, G, st, t, v, by omega, by go_num, HLB, HB⟩, by simp [intOf]; omega⟩
    ·have h7b : (kd == 7) = false := beq_eq_false_iff_ne.2 h7
     have hrk : 10 * i ≤ 880 := by omega
     have hbw : b1 < wr.heap.size := Nat.lt_of_lt_of_le hh1 HB.out.size
     have hnF : ¬ (F b1 ∨ G b1) := fun h => by
      rcases h with h | h
      ·have := HLA.out.inF _ h; omega
      ·have := HLA.out.inG _ h; omega
     have HBD : Hid (Below w.heap.size w wr.drew) := Lib.hid (HB.out.drew)
     have HLD := Lib.hid (HLA.out.later (HC.out d0) ((Below.refl wr.heap.size wr).drew))
     have hbd : b1 < wr.drew.heap.size := hbw
     have HWD : Hid (wr.drew.rangeAt b1 (o1 + i * 6) [.int .i64 kd, .string s, .string u, .int .i64 z, .slice p1 n1 c1, .slice p2 n2 c2]) := Lib.hid (Rd.rangeLater HWR.out hbw ((Below.refl wr.heap.size wr).drew))
     have HBL : Hid (∀ w', dsk.Touch (fun b => F b ∨ G b) wr.drew w' → Below w.heap.size w w') := Lib.hid (fun w' h => HBD.out.trans (h.below HBD.out.size (fun b hb => by
      rcases hb with hb | hb
      ·exact (HLD.out.inF b hb).1
      ·exact (HLD.out.inG b hb).1)))
     have hps : s.size ≤ 100000 := by have := HAI.out.p; simp only at this; omega
     have hqs : u.size ≤ 100000 := by have := HAI.out.q; simp only at this; omega
     have HNX := Lib.hid fun w1 w2 e e2 D T => HLD.out.next (HC.out d0) HBD.out.size (a := ⟨kd, s, u, z, bs, zs⟩) HAI.out.bb (w1 := w1) (w2 := w2) (e := e) (e2 := e2) D T
     have HMI := Lib.hid fun w1 r e D => HLD.out.mid (w1 := w1) (r := r) (e := e) D
     have HDO := Lib.hid (ldo_any (HC.out d0) wr.drew F (.pointer (some af)) st (10 * i) HLD.out.fi HLD.out.good hrk (HMX.out.later HBD.out) ⟨kd, s, u, z, bs, zs⟩ p1 n1 c1 p2 n2 c2 (HAI.out.later HBD.out) (fun a m c hv hm hF => by
      have h1 := rd_inS HAI.out.rd a m c hv hm
      have h2 := (HLA.out.inF _ hF).1
      omega) h7)
     have HTR := Lib.hid fun w' (hb : Below w.heap.size w w') (h : TAt w' G g t v) => ltree_any w' G g t v h (inv_small HLA.out.inv) ⟨kd, s, u, z, bs, zs⟩ p1 n1 c1 p2 n2 c2 (HAI.out.later hb)
     have hre := (act_inv HLA.out.sound HLA.out.inv ⟨kd, s, u, z, bs, zs⟩ HAI.out.bb).1
     obtain ⟨r, hr⟩ : ∃ r, (fDo st ⟨kd, s, u, z, bs, zs⟩).1 = r := ⟨_, rfl⟩
     rw [hr] at hre
     have HRF := Lib.hid hr
     have HRT := Lib.hid hre
     have e10 : 10 * (i + 1) = 10 * i + 10 := by omega
     clear hr hre
     generalize fDo st ⟨kd, s, u, z, bs, zs⟩ = rf at *
     generalize tDo t ⟨kd, s, u, z, bs, zs⟩ = rt at *
     obtain ⟨rf1, rf2⟩ := rf
     obtain ⟨rt1, rt2⟩ := rt
     obtain rfl : rf1 = r := HRF.out
     obtain rfl : rt1 = rf1 := HRT.out
     clear HRF HRT HLA HLD HAI HWR
     go_wp2_with fail
     refine wp_region_held_drew (S := dsk.Touch (fun b => F b ∨ G b) wr.drew) (by kernel_rfl) (dsk.Touch.refl _ _) (fun hH0 => ?_)
     refine wpAnyH_take (i := 0) (oi := { dst := some 34, op := Op.move (Operand.tmp 3), type := 33, pos := "law.go:183", after := #[], guard := none }) (v := ?_) rfl (by kernel_rfl) (by kernel_rfl) (by kernel_rfl) (fun _ _ _ h => h) (Or.inl ⟨by rfl, ?_⟩) (by assumption) ?_
     rotate_left
     ·(intro w' hSw; go_simp; try with_reducible rfl)
     try simp only [Act.put, List.setIfInBounds_toArray, List.set_cons_zero, List.set_cons_succ]
     refine wpAnyH_take (i := 1) (oi := { dst := some 35, op := Op.move (Operand.tmp 0), type := 23, pos := "law.go:183", after := #[], guard := none }) (v := ?_) rfl (by kernel_rfl) (by kernel_rfl) (by kernel_rfl) (fun _ _ _ h => h) (Or.inl ⟨by rfl, ?_⟩) (by assumption) ?_
     rotate_left
     ·(intro w' hSw; go_simp; try with_reducible rfl)
     try simp only [Act.put, List.setIfInBounds_toArray, List.set_cons_zero, List.set_cons_succ]
     refine wpAnyH_take (i := 2) (oi := { dst := some 36, op := Op.move (Operand.tmp 5), type := 3, pos := "law.go:183", after := #[], guard := none }) (v := ?_) rfl (by kernel_rfl) (by kernel_rfl) (by kernel_rfl) (fun _ _ _ h => h) (Or.inl ⟨by rfl, ?_⟩) (by assumption) ?_
     rotate_left
     ·(intro w' hSw; go_simp; try with_reducible rfl)
     try simp only [Act.put, List.setIfInBounds_toArray, List.set_cons_zero, List.set_cons_succ]
     refine wpAnyH_take (i := 3) (oi := { dst := some 37, op := Op.indexAddr 23 (Operand.tmp 35) (Operand.tmp 36), type := 0, pos := "law.go:183", after := #[{ on := 1, ground := Ground.data }, { on := 2, ground := Ground.data }], guard := none }) (v := ?_) rfl (by kernel_rfl) (by kernel_rfl) (by kernel_rfl) (fun _ _ _ h => h) (Or.inl ⟨by rfl, ?_⟩) (by assumption) ?_
     rotate_left
     ·(intro w' hSw; go_simp; try with_reducible rfl)
     try simp only [Act.put, List.setIfInBounds_toArray, List.set_cons_zero, List.set_cons_succ]
     refine' wpAnyH_take (i := 4) (oi := { dst := some 38, op := Op.load 41 (Operand.tmp 37), type := 41, pos := "law.go:183", after := #[{ on := 3, ground := Ground.data }], guard := none }) (v := _) rfl (by kernel_rfl) (by kernel_rfl) (by kernel_rfl) (fun _ _ _ h => h) (ld_actF (by rfl) _ rfl b1 (o1 + i * 6) rfl kd s u z (.slice p1 n1 c1) (.slice p2 n2 c2) (fun w' hw => dsk.Touch.range hw hbd hnF HWD.out)) (by assumption) ?_
     try simp only [Act.put, List.setIfInBounds_toArray, List.set_cons_zero, List.set_cons_succ]
     refine wpAnyH_take (i := 7) (oi := { dst := some 41, op := Op.move (Operand.tmp 0), type := 23, pos := "law.go:183", after := #[], guard := none }) (v := ?_) rfl (by kernel_rfl) (by kernel_rfl) (by kernel_rfl) (fun _ _ _ h => h) (Or.inl ⟨by rfl, ?_⟩) (by assumption) ?_
     rotate_left
     ·(intro w' hSw; go_simp; try with_reducible rfl)
     try simp only [Act.put, List.setIfInBounds_toArray, List.set_cons_zero, List.set_cons_succ]
     refine wpAnyH_take (i := 8) (oi := { dst := some 42, op := Op.move (Operand.tmp 5), type := 3, pos := "law.go:183", after := #[], guard := none }) (v := ?_) rfl (by kernel_rfl) (by kernel_rfl) (by kernel_rfl) (fun _ _ _ h => h) (Or.inl ⟨by rfl, ?_⟩) (by assumption) ?_
     rotate_left
     ·(intro w' hSw; go_simp; try with_reducible rfl)
     try simp only [Act.put, List.setIfInBounds_toArray, List.set_cons_zero, List.set_cons_succ]
     refine wpAnyH_take (i := 9) (oi := { dst := some 43, op := Op.indexAddr 23 (Operand.tmp 41) (Operand.tmp 42), type := 0, pos := "law.go:183", after := #[{ on := 7, ground := Ground.data }, { on := 8, ground := Ground.data }], guard := none }) (v := ?_) rfl (by kernel_rfl) (by kernel_rfl) (by kernel_rfl) (fun _ _ _ h => h) (Or.inl ⟨by rfl, ?_⟩) (by assumption) ?_
     rotate_left
     ·(intro w' hSw; go_simp; try with_reducible rfl)
     try simp only [Act.put, List.setIfInBounds_toArray, List.set_cons_zero, List.set_cons_succ]
     refine' wpAnyH_take (i := 10) (oi := { dst := some 44, op := Op.load 41 (Operand.tmp 43), type := 41, pos := "law.go:183", after := #[{ on := 9, ground := Ground.data }], guard := none }) (v := _) rfl (by kernel_rfl) (by kernel_rfl) (by kernel_rfl) (fun _ _ _ h => h) (ld_actF (by rfl) _ rfl b1 (o1 + i * 6) rfl kd s u z (.slice p1 n1 c1) (.slice p2 n2 c2) (fun w' hw => dsk.Touch.range hw hbd hnF HWD.out)) (by assumption) ?_
     try simp only [Act.put, List.setIfInBounds_toArray, List.set_cons_zero, List.set_cons_succ]
     refine wpAnyH_ready (rs := [5]) (by kernel_rfl) (by simp) ?_
     refine AllReadyH.cons (o := { dst := some 39, op := Op.call { callee := Callee.value (Operand.func 21), args := #[Operand.tmp 34, Operand.tmp 38], argTypes := #[33, 41] }, type := 27, pos := "law.go:183", after := #[{ on := 0, ground := Ground.data }, { on := 4, ground := Ground.data }], guard := none }) rfl (fun K hK => ?_) AllReadyH.nil
     go_simp
     refine HDO.out.mono ?_
     rintro e v1 hD
     have HFD := Lib.hid hD
     obtain ⟨rfl, _, _⟩ := hD
     have h1 : dsk.Touch (fun b => F b ∨ G b) wr.drew v1 := HFD.out.2.2.mono (fun b hb => Or.inl hb)
     dsimp only
     refine hK.out _ _ h1 (fun hHeld => ?_)
     clear hK K
     try simp only [Act.put, List.setIfInBounds_toArray, List.set_cons_zero, List.set_cons_succ]
     refine wpAnyH_ready (rs := [6]) (by kernel_rfl) (by simp) ?_
     refine AllReadyH.cons (o := { dst := some 40, op := Op.call { callee := Callee.value (Operand.func 12), args := #[Operand.tmp 39], argTypes := #[27] }, type := 3, pos := "law.go:183", after := #[{ on := 5, ground := Ground.data }, { on := 5, ground := Ground.chain }], guard := none }) rfl (fun K hK => ?_) AllReadyH.nil
     go_simp
     refine (HNU.out _ _).mono ?_
     rintro e v2 ⟨rfl, hv⟩
     subst hv
     have h2 := h1
     refine hK.out _ _ h2 (fun hHeld => ?_)
     clear hK K
     try simp only [Act.put, List.setIfInBounds_toArray, List.set_cons_zero, List.set_cons_succ]
     refine wpAnyH_ready (rs := [11]) (by kernel_rfl) (by simp) ?_
     refine AllReadyH.cons (o := { dst := some 45, op := Op.call { callee := Callee.value (Operand.func 28), args := #[Operand.tmp 4, Operand.tmp 44], argTypes := #[64, 41] }, type := 27, pos := "law.go:183", after := #[{ on := 10, ground := Ground.data }, { on := 6, ground := Ground.chain }], guard := none }) rfl (fun K hK => ?_) AllReadyH.nil
     go_simp
     refine (HTR.out _ (HBL.out _ h2) (HMI.out _ _ _ HFD.out)).mono ?_
     rintro e v3 hT
     have HTD := Lib.hid hT
     obtain ⟨rfl, _, _⟩ := hT
     have h3 : dsk.Touch (fun b => F b ∨ G b) wr.drew v3 := h2.trans (HTD.out.2.2.mono (fun b hb => Or.inr hb))
     obtain ⟨vn, hn⟩ := (HNX.out _ _ _ _ HFD.out HTD.out).2
     have HLN := Lib.hid hn
     clear hn HNX
     dsimp only
     refine hK.out _ _ h3 (fun hHeld => ?_)
     clear hK K
     try simp only [Act.put, List.setIfInBounds_toArray, List.set_cons_zero, List.set_cons_succ]
     refine wpAnyH_ready (rs := [12]) (by kernel_rfl) (by simp) ?_
     refine AllReadyH.cons (o := { dst := some 46, op := Op.call { callee := Callee.value (Operand.func 12), args := #[Operand.tmp 45], argTypes := #[27] }, type := 3, pos := "law.go:183", after := #[{ on := 11, ground := Ground.data }, { on := 11, ground := Ground.chain }], guard := none }) rfl (fun K hK => ?_) AllReadyH.nil
     go_simp
     refine (HNU.out _ _).mono ?_
     rintro e v4 ⟨rfl, hv⟩
     subst hv
     have h4 := h3
     refine hK.out _ _ h4 (fun hHeld => ?_)
     clear hK K
     try simp only [Act.put, List.setIfInBounds_toArray, List.set_cons_zero, List.set_cons_succ]
     refine wpAnyH_take (i := 13) (oi := { dst := some 47, op := Op.binOp BinOp.neq 3 (Operand.tmp 40) (Operand.tmp 46) 3, type := 4, pos := "law.go:183", after := #[{ on := 6, ground := Ground.data }, { on := 12, ground := Ground.data }], guard := none }) (v := ?_) rfl (by kernel_rfl) (by kernel_rfl) (by kernel_rfl) (fun _ _ _ h => h) (Or.inl ⟨by rfl, ?_⟩) (by assumption) ?_
     rotate_left
     ·(intro w' hSw; go_simp; try with_reducible rfl)
     try simp only [Act.put, List.setIfInBounds_toArray, List.set_cons_zero, List.set_cons_succ]
     refine wpAnyH_take (i := 14) (oi := { dst := some 48, op := Op.move (Operand.tmp 47), type := 4, pos := "law.go:183", after := #[{ on := 13, ground := Ground.data }, { on := 12, ground := Ground.chain }], guard := none }) (v := ?_) rfl (by kernel_rfl) (by kernel_rfl) (by kernel_rfl) (fun _ _ _ h => h) (Or.inl ⟨by rfl, ?_⟩) (by assumption) ?_
     rotate_left
     ·(intro w' hSw; go_simp; try with_reducible rfl)
     try simp only [Act.put, List.setIfInBounds_toArray, List.set_cons_zero, List.set_cons_succ]
     refine wpAnyH_take (i := 15) (oi := { dst := some 49, op := Op.move (Operand.tmp 3), type := 33, pos := "law.go:183", after := #[{ on := 14, ground := Ground.guard }], guard := some (14, false) }) (v := ?_) rfl (by kernel_rfl) (by kernel_rfl) (by kernel_rfl) (fun _ _ _ h => h) (Or.inl ⟨by rfl, ?_⟩) (by assumption) ?_
     rotate_left
     ·(intro w' hSw; go_simp; try with_reducible rfl)
     try simp only [Act.put, List.setIfInBounds_toArray, List.set_cons_zero, List.set_cons_succ]
     refine wpAnyH_take (i := 16) (oi := { dst := some 50, op := Op.move (Operand.tmp 0), type := 23, pos := "law.go:183", after := #[{ on := 14, ground := Ground.guard }], guard := some (14, false) }) (v := ?_) rfl (by kernel_rfl) (by kernel_rfl) (by kernel_rfl) (fun _ _ _ h => h) (Or.inl ⟨by rfl, ?_⟩) (by assumption) ?_
     rotate_left
     ·(intro w' hSw; go_simp; try with_reducible rfl)
     try simp only [Act.put, List.setIfInBounds_toArray, List.set_cons_zero, List.set_cons_succ]
     refine wpAnyH_take (i := 17) (oi := { dst := some 51, op := Op.move (Operand.tmp 5), type := 3, pos := "law.go:183", after := #[{ on := 14, ground := Ground.guard }], guard := some (14, false) }) (v := ?_) rfl (by kernel_rfl) (by kernel_rfl) (by kernel_rfl) (fun _ _ _ h => h) (Or.inl ⟨by rfl, ?_⟩) (by assumption) ?_
     rotate_left
     ·(intro w' hSw; go_simp; try with_reducible rfl)
     try simp only [Act.put, List.setIfInBounds_toArray, List.set_cons_zero, List.set_cons_succ]
     refine wpAnyH_take (i := 18) (oi := { dst := some 52, op := Op.indexAddr 23 (Operand.tmp 50) (Operand.tmp 51), type := 0, pos := "law.go:183", after := #[{ on := 16, ground := Ground.data }, { on := 17, ground := Ground.data }, { on := 14, ground := Ground.guard }], guard := some (14, false) }) (v := ?_) rfl (by kernel_rfl) (by kernel_rfl) (by kernel_rfl) (fun _ _ _ h => h) (Or.inl ⟨by rfl, ?_⟩) (by assumption) ?_
     rotate_left
     ·(intro w' hSw; go_simp; try with_reducible rfl)
     try simp only [Act.put, List.setIfInBounds_toArray, List.set_cons_zero, List.set_cons_succ]
     refine wpAnyH_take (i := 19) (oi := { dst := some 53, op := Op.fieldAddr 41 (Operand.tmp 52) 1, type := 0, pos := "law.go:183", after := #[{ on := 18, ground := Ground.data }, { on := 14, ground := Ground.guard }], guard := some (14, false) }) (v := ?_) rfl (by kernel_rfl) (by kernel_rfl) (by kernel_rfl) (fun _ _ _ h => h) (Or.inl ⟨by rfl, ?_⟩) (by assumption) ?_
     rotate_left
     ·(intro w' hSw; go_simp; try with_reducible rfl)
     try simp only [Act.put, List.setIfInBounds_toArray, List.set_cons_zero, List.set_cons_succ]
     refine' wpAnyH_take (i := 20) (oi := { dst := some 54, op := Op.load 9 (Operand.tmp 53), type := 9, pos := "law.go:183", after := #[{ on := 19, ground := Ground.data }, { on := 14, ground := Ground.guard }], guard := some (14, false) }) (v := _) rfl (by kernel_rfl) (by kernel_rfl) (by kernel_rfl) (fun _ _ _ h => h) (dsk.ld_cell (by rfl) 9 _ und_strF rfl _ rfl b1 (o1 + i * 6 + 1) rfl (.string s) (fun w' hw => (dsk.Touch.range hw hbd hnF HWD.out) 1 _ rfl)) (by assumption) ?_
     try simp only [Act.put, List.setIfInBounds_toArray, List.set_cons_zero, List.set_cons_succ]
     refine wpAnyH_ready (rs := [21]) (by kernel_rfl) (by simp) ?_
     refine AllReadyH.cons (o := { dst := some 55, op := Op.call { callee := Callee.value (Operand.func 29), args := #[Operand.tmp 49, Operand.tmp 4, Operand.tmp 54], argTypes := #[33, 64, 9] }, type := 4, pos := "law.go:183", after := #[{ on := 15, ground := Ground.data }, { on := 20, ground := Ground.data }, { on := 14, ground := Ground.chain }, { on := 14, ground := Ground.guard }], guard := some (14, false) }) rfl (fun K hK => ?_) AllReadyH.nil
     go_simp
     refine (ltells_any (HC.out d0) _ _ _ _ _ _ _ _ _ HLN.out.fi HLN.out.good (by omega) (HMX.out.later (HBL.out _ h4)) HLN.out.tr HLN.out.inv s hps).mono ?_
     rintro e v5 ⟨rfl, hb⟩
     have HLP := Lib.hid (HLN.out.later (HC.out d0) hb)
     have h5 := h4.trans (dsk.Touch.of_below hb)
     clear hb
     dsimp only
     refine hK.out _ _ h5 (fun hHeld => ?_)
     clear hK K
     try simp only [Act.put, List.setIfInBounds_toArray, List.set_cons_zero, List.set_cons_succ]
     refine wpAnyH_take (i := 22) (oi := { dst := some 56, op := Op.unOp UnOp.not 4 (Operand.tmp 55), type := 4, pos := "law.go:183", after := #[{ on := 21, ground := Ground.data }, { on := 14, ground := Ground.guard }], guard := some (14, false) }) (v := ?_) rfl (by kernel_rfl) (by kernel_rfl) (by kernel_rfl) (fun _ _ _ h => h) (Or.inl ⟨by rfl, ?_⟩) (by assumption) ?_
     rotate_left
     ·(intro w' hSw; go_simp; try with_reducible rfl)
     try simp only [Act.put, List.setIfInBounds_toArray, List.set_cons_zero, List.set_cons_succ]
     refine wpAnyH_take (i := 23) (oi := { dst := some 57, op := Op.pick (Operand.tmp 48) (Operand.const (Value.bool true)) (Operand.tmp 56), type := 4, pos := "law.go:183", after := #[{ on := 14, ground := Ground.data }, { on := 22, ground := Ground.data }], guard := none }) (v := ?_) rfl (by kernel_rfl) (by kernel_rfl) (by kernel_rfl) (fun _ _ _ h => h) (Or.inl ⟨by rfl, ?_⟩) (by assumption) ?_
     rotate_left
     ·(intro w' hSw; go_simp; try with_reducible rfl)
     try simp only [Act.put, List.setIfInBounds_toArray, List.set_cons_zero, List.set_cons_succ]
     refine wpAnyH_take (i := 24) (oi := { dst := some 58, op := Op.move (Operand.tmp 57), type := 4, pos := "law.go:183", after := #[{ on := 23, ground := Ground.data }, { on := 21, ground := Ground.chain }], guard := none }) (v := ?_) rfl (by kernel_rfl) (by kernel_rfl) (by kernel_rfl) (fun _ _ _ h => h) (Or.inl ⟨by rfl, ?_⟩) (by assumption) ?_
     rotate_left
     ·(intro w' hSw; go_simp; try with_reducible rfl)
     try simp only [Act.put, List.setIfInBounds_toArray, List.set_cons_zero, List.set_cons_succ]
     refine wpAnyH_take (i := 25) (oi := { dst := some 59, op := Op.move (Operand.tmp 3), type := 33, pos := "law.go:183", after := #[{ on := 24, ground := Ground.guard }], guard := some (24, false) }) (v := ?_) rfl (by kernel_rfl) (by kernel_rfl) (by kernel_rfl) (fun _ _ _ h => h) (Or.inl ⟨by rfl, ?_⟩) (by assumption) ?_
     rotate_left
     ·(intro w' hSw; go_simp; try with_reducible rfl)
     try simp only [Act.put, List.setIfInBounds_toArray, List.set_cons_zero, List.set_cons_succ]
     refine wpAnyH_take (i := 26) (oi := { dst := some 60, op := Op.move (Operand.tmp 0), type := 23, pos := "law.go:183", after := #[{ on := 24, ground := Ground.guard }], guard := some (24, false) }) (v := ?_) rfl (by kernel_rfl) (by kernel_rfl) (by kernel_rfl) (fun _ _ _ h => h) (Or.inl ⟨by rfl, ?_⟩) (by assumption) ?_
     rotate_left
     ·(intro w' hSw; go_simp; try with_reducible rfl)
     try simp only [Act.put, List.setIfInBounds_toArray, List.set_cons_zero, List.set_cons_succ]
     refine wpAnyH_take (i := 27) (oi := { dst := some 61, op := Op.move (Operand.tmp 5), type := 3, pos := "law.go:183", after := #[{ on := 24, ground := Ground.guard }], guard := some (24, false) }) (v := ?_) rfl (by kernel_rfl) (by kernel_rfl) (by kernel_rfl) (fun _ _ _ h => h) (Or.inl ⟨by rfl, ?_⟩) (by assumption) ?_
     rotate_left
     ·(intro w' hSw; go_simp; try with_reducible rfl)
     try simp only [Act.put, List.setIfInBounds_toArray, List.set_cons_zero, List.set_cons_succ]
     refine wpAnyH_take (i := 28) (oi := { dst := some 62, op := Op.indexAddr 23 (Operand.tmp 60) (Operand.tmp 61), type := 0, pos := "law.go:183", after := #[{ on := 26, ground := Ground.data }, { on := 27, ground := Ground.data }, { on := 24, ground := Ground.guard }], guard := some (24, false) }) (v := ?_) rfl (by kernel_rfl) (by kernel_rfl) (by kernel_rfl) (fun _ _ _ h => h) (Or.inl ⟨by rfl, ?_⟩) (by assumption) ?_
     rotate_left
     ·(intro w' hSw; go_simp; try with_reducible rfl)
     try simp only [Act.put, List.setIfInBounds_toArray, List.set_cons_zero, List.set_cons_succ]
     refine wpAnyH_take (i := 29) (oi := { dst := some 63, op := Op.fieldAddr 41 (Operand.tmp 62) 2, type := 0, pos := "law.go:183", after := #[{ on := 28, ground := Ground.data }, { on := 24, ground := Ground.guard }], guard := some (24, false) }) (v := ?_) rfl (by kernel_rfl) (by kernel_rfl) (by kernel_rfl) (fun _ _ _ h => h) (Or.inl ⟨by rfl, ?_⟩) (by assumption) ?_
     rotate_left
     ·(intro w' hSw; go_simp; try with_reducible rfl)
     try simp only [Act.put, List.setIfInBounds_toArray, List.set_cons_zero, List.set_cons_succ]
     refine' wpAnyH_take (i := 30) (oi := { dst := some 64, op := Op.load 9 (Operand.tmp 63), type := 9, pos := "law.go:183", after := #[{ on := 29, ground := Ground.data }, { on := 24, ground := Ground.guard }], guard := some (24, false) }) (v := _) rfl (by kernel_rfl) (by kernel_rfl) (by kernel_rfl) (fun _ _ _ h => h) (dsk.ld_cell (by rfl) 9 _ und_strF rfl _ rfl b1 (o1 + i * 6 + 2) rfl (.string u) (fun w' hw => (dsk.Touch.range hw hbd hnF HWD.out) 2 _ rfl)) (by assumption) ?_
     try simp only [Act.put, List.setIfInBounds_toArray, List.set_cons_zero, List.set_cons_succ]
     refine wpAnyH_ready (rs := [31]) (by kernel_rfl) (by simp) ?_
     refine AllReadyH.cons (o := { dst := some 65, op := Op.call { callee := Callee.value (Operand.func 29), args := #[Operand.tmp 59, Operand.tmp 4, Operand.tmp 64], argTypes := #[33, 64, 9] }, type := 4, pos := "law.go:183", after := #[{ on := 25, ground := Ground.data }, { on := 30, ground := Ground.data }, { on := 24, ground := Ground.chain }, { on := 24, ground := Ground.guard }], guard := some (24, false) }) rfl (fun K hK => ?_) AllReadyH.nil
     go_simp
     refine (ltells_any (HC.out d0) _ _ _ _ _ _ _ _ _ HLP.out.fi HLP.out.good (by omega) (HMX.out.later (HBL.out _ h5)) HLP.out.tr HLP.out.inv u hqs).mono ?_
     rintro e v6 ⟨rfl, hb⟩
     have HLQ := Lib.hid (HLP.out.later (HC.out d0) hb)
     have h6 := h5.trans (dsk.Touch.of_below hb)
     clear hb
     dsimp only
     refine hK.out _ _ h6 (fun hHeld => ?_)
     clear hK K
     try simp only [Act.put, List.setIfInBounds_toArray, List.set_cons_zero, List.set_cons_succ]
     refine wpAnyH_take (i := 32) (oi := { dst := some 66, op := Op.unOp UnOp.not 4 (Operand.tmp 65), type := 4, pos := "law.go:183", after := #[{ on := 31, ground := Ground.data }, { on := 24, ground := Ground.guard }], guard := some (24, false) }) (v := ?_) rfl (by kernel_rfl) (by kernel_rfl) (by kernel_rfl) (fun _ _ _ h => h) (Or.inl ⟨by rfl, ?_⟩) (by assumption) ?_
     rotate_left
     ·(intro w' hSw; go_simp; try with_reducible rfl)
     try simp only [Act.put, List.setIfInBounds_toArray, List.set_cons_zero, List.set_cons_succ]
     refine wpAnyH_take (i := 33) (oi := { dst := some 67, op := Op.pick (Operand.tmp 58) (Operand.const (Value.bool true)) (Operand.tmp 66), type := 4, pos := "law.go:183", after := #[{ on := 24, ground := Ground.data }, { on := 32, ground := Ground.data }], guard := none }) (v := ?_) rfl (by kernel_rfl) (by kernel_rfl) (by kernel_rfl) (fun _ _ _ h => h) (Or.inl ⟨by rfl, ?_⟩) (by assumption) ?_
     rotate_left
     ·(intro w' hSw; go_simp; try with_reducible rfl)
     try simp only [Act.put, List.setIfInBounds_toArray, List.set_cons_zero, List.set_cons_succ]
     refine wpAnyH_done (by kernel_rfl) ?_ _
     clear hHeld hH0
     go_wp2_with fail
     exact ⟨⟨i + 1, _, _, _, _, _, by omega, by go_num, (by rw [e10]; exact HLQ), Lib.hid (HBL.out _ h6)⟩, by simp [intOf]; omega⟩
   ·obtain rfl : i = n := by omega
    have HLT := Lib.hid fun w' F G st t v m (h : LAt (FI d0) w.heap.size g (.pointer (some af)) w' F G st t v m) (hk : m ≤ 880) (hx : Mx w') (s : ByteArray) (hz : s.size ≤ 100000) => ltells_any (HC.out d0) w' F G (.pointer (some af)) st m g t v h.fi h.good hk hx h.tr h.inv s hz
    have hml : 10 * i ≤ 880 := by omega
    obtain ⟨m, hmm⟩ : ∃ m, 10 * i = m := ⟨_, rfl⟩
    rw [hmm] at HLA hml
    clear hmm
    have HMW := Lib.hid (HMX.out.later HB.out)
    have HSM := Lib.hid (inv_small HLA.out.inv)
    obtain ⟨nt, hnt⟩ : ∃ k, t.length = k := ⟨_, rfl⟩
    have htl : nt ≤ 100 := by have := HSM.out.len; omega
    have hv0 : Hid (wr.cell? ⟨g, 0, none⟩ = some v) := Lib.hid (HLA.out.tr.parts).2.1
    obtain ⟨pv, cv, hvv⟩ := (HLA.out.tr.parts).1
    rw [hnt] at hvv
    subst hvv
    have HNT := Lib.hid hnt
    clear hnt HLL HR HG
    obtain ⟨wx, hwx⟩ : ∃ x, wr = x := ⟨_, rfl⟩
    rw [hwx] at HLA HB HMW hv0
    have hv1 := hv0.out
    rw [← hwx] at hv1
    have BX : Hid (Below wx.heap.size wx wr) := Lib.hid (by rw [hwx]; exact Below.refl _ _)
    clear hwx
    go_wp2_with fail
    go_loopw [6] (fun iv wr => ∃ (j : Nat), j ≤ nt ∧ iv = .int .i64 (j : Int) ∧ Hid (Below wx.heap.size wx wr)) (fun iv _ => nt - (intOf iv).toNat)
    case atStart => exact ⟨0, by omega, rfl, BX⟩
    case round =>
     clear BX hv1
     obtain ⟨j, hj, rfl, HBQ⟩ := hrel
     have hvq : wr.cell? ⟨g, 0, none⟩ = some (.slice pv nt cv) := by
      have h := HLA.out.tr.later HBQ.out
      exact (h.parts).2.1
     by_cases hjn : j < nt
     ·have hjn1 : (j:Int) < nt := by omega
      obtain ⟨bq, cq, hpe, hcq, hcm, hbq, _, _, k0, _, _⟩ := TAt.node (HLA.out.tr.later HBQ.out) (i := j) (by rw [HNT.out]; exact hjn)
      rw [HNT.out] at hpe hcq
      cases hpe
      have hpz : (t.getD j nd0).path.size ≤ 100000 := by
       have := HSM.out.path j (by rw [HNT.out]; exact hjn)
       omega
      have HT2 := Lib.hid (HLT.out wr F G st t _ m (HLA.out.later (HC.out d0) HBQ.out) hml (HMW.out.later HBQ.out) _ hpz)
      generalize (t.getD j nd0).path = s at *
      clear hpz HLT HLA
      go_wp2_with (go_at_call 29; refine HT2.out.mono ?_; rintro e w9 ⟨rfl, hb9⟩; have B9 := Lib.hid (below_trans HBQ.out hb9); clear hb9)
      exact ⟨⟨j + 1, by omega, by go_num, B9⟩, by simp [intOf]; omega⟩
     ·obtain rfl : j = nt := by omega
      have HLQ := Lib.hid (HLA.out.later (HC.out d0) HBQ.out)
      have HDK := Lib.hid fun w' (hb : Below wr.heap.size wr w') => HD.out.disk d0 w' F (.pointer (some af)) st m (HLQ.out.later (HC.out d0) hb).fi HLQ.out.good hml
      obtain ⟨q1, q2, q3⟩ := inv_counts HLA.out.inv
      have HCD : Hid (CA wr F d0 st) := Lib.hid (HD.out.code d0 wr F _ st HLQ.out.fi)
      have HCT := Lib.hid fun w' d (hb : Below wr.heap.size wr w') (hc : CA w' F d st) => HCN.out w' d (nowL st) (Or.inr ⟨F, st, hc, HLA.out.good.fine (by omega), (now_seen st fun x hx => (HLA.out.good.ws x hx).2).symm⟩)
      have HBK := Lib.hid fun w' (hb : Below wr.heap.size wr w') => rtblocks_is w' G g t _ (HLQ.out.later (HC.out d0) hb).tr HSM.out
      rw [HNT.out] at q1 q2
      rw [q1, q2, q3] at HCT
      generalize tBlocks t = nb at *
      have a1 : (((1 + j : Nat) : Int) == 1 + (j : Int)) = true := by simp
      have a2 : ((j : Int) == (j : Int)) = true := by simp
      have a3 : ((nb : Int) == (nb : Int)) = true := by simp
      have a4 : IntKind.i64.wrap (1 + (j : Int)) = 1 + (j : Int) := IntWalk.i64_in _ (by omega)
      have HTQ := Lib.hid (HLA.out.tr.later HBQ.out)
      clear HLT HLA HLQ q1 q2 q3
      go_upto_region 19 with (first | (go_at_call 31; refine (HDK.out _ (Below.refl _ _)).mono ?_; rintro e wd ⟨rfl, hwd⟩; obtain rfl := hwd) | (go_at_call 30; refine (HCT.out _ _ (Below.refl _ _) HCD.out).mono ?_; rintro e w9 ⟨rfl, hb9⟩; have B9 := Lib.hid hb9; clear hb9))
      have hv9 : w9.cell? ⟨g, 0, none⟩ = some (.slice pv j cv) := ((HTQ.out.later B9.out).parts).2.1
      have HB2 := Lib.hid (HBK.out _ B9.out)
      go_wp2_with (go_at_call 32; refine HB2.out.mono ?_; rintro e wz ⟨rfl, hwz⟩; obtain rfl := hwz)
      go_ret
      exact ⟨rfl, below_trans (below_trans HB.out HBQ.out) B9.out⟩
end fs
namespace fs
set_option maxRecDepth 100000
open Go.ChangeShapes Go.WideShapes Go.ChangeAt Go.RowKit
open rows
open sec
open dsk (St st0)
open ly
open pa
open lk
open al
abbrev txA : ByteArray := { data := #[47, 97] }
abbrev txB : ByteArray := { data := #[47, 98] }
abbrev txC : ByteArray := { data := #[47, 99] }
def stA : St := (makeV (st0 emptyImg) txA 1).2
def stB : St := (writeFV stA txA 0 [120, 121]).2
theorem kn_create : (makeV (st0 emptyImg) txA 1).1 = 0 := by decide +kernel
theorem kn_write : (writeFV stA txA 0 [120, 121]).1 = 0 := by decide +kernel
theorem kn_read : readV (nowL stB) txA = ([120, 121], 0) := by decide +kernel
theorem kn_there : (lookV (nowL stB) (bys txA)).2 = 0 := by decide +kernel
theorem kn_not : (lookV (nowL stB) (bys txB)).2 ≠ 0 := by decide +kernel
theorem kn_again : (makeV stB txA 1).1 = 5 := by decide +kernel
theorem kn_unlink : (unlinkV (makeV stB txA 1).2 txC).1 = 4 := by decide +kernel
end fs
end Go.Proofs.YtpolbmdnfgjjdaaGreatDoor
