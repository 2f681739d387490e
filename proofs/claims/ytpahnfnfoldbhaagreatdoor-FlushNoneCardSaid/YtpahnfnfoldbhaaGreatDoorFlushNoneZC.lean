/- What FlushNone wants, part 29. -/
import Derived.Test.YtpahnfnfoldbhaaGreatDoorFlushNoneB
import Derived.Test.YtpahnfnfoldbhaaGreatDoorFlushNoneF
import Derived.Test.YtpahnfnfoldbhaaGreatDoorFlushNoneG
import Derived.Test.YtpahnfnfoldbhaaGreatDoorFlushNoneH
import Derived.Test.YtpahnfnfoldbhaaGreatDoorFlushNoneZ
import Derived.Test.YtpahnfnfoldbhaaGreatDoorFlushNoneZA
import Derived.Test.YtpahnfnfoldbhaaGreatDoorFlushNoneZB
set_option linter.unusedVariables false
set_option linter.unusedSimpArgs false
namespace Go.Proofs.YtpahnfnfoldbhaaGreatDoor
namespace fs
set_option maxRecDepth 100000
open Go.ChangeShapes Go.WideShapes Go.ChangeAt Go.RowKit
open rows
open sec
open dsk (St Wr.c CA)
open ly
open pa
open lk
open al
set_option maxRecDepth 100000 in
theorem fmount_yes (w : World) (d : Value) (ss : List (List Int)) (hd : Dk w d ss) (hl : 0 < ss.length) (hm : mountsB ss = true) : Calls Tryz.prog 12 #[d] w fun e w' => ∃ g, e = .returned (.tuple #[.pointer (some ⟨g, 0, none⟩), .int .i64 0]) ∧ FR w' g d ∧ w.heap.size ≤ g ∧ Below w.heap.size w w' := by
 have HM := Lib.hid fun w' (hb : Below w.heap.size w w') => mounted_any w' d ss (hd.later hb)
 rw [hm] at HM
 have HR := Lib.hid (dread w d ss 0 hd (wf_byte (by omega)))
 rw [if_pos ⟨by omega, by omega⟩] at HR
 have HX := Lib.hid (secAt_sec hd.secs.1 0)
 obtain ⟨pd, rfl⟩ := dk_ptr hd
 generalize secAt ss 0 = s at *
 clear hd hl hm
 go_enter Tryz.func12, Tryz.ntmps12
 go_wp2_with (first
  | (go_at_call 48; refine HR.out.mono ?_; rintro e w1 ⟨rfl, hb⟩; have B1 := Lib.hid hb; clear hb)
  | (refine store_at rfl (.tmp 4) (.tmp 10) rfl rfl w1.heap.size s zero32 rfl rfl HX.out.1 (by decide) (at_lit w1) ?_; intro w2 hA hB _; have B2 := Lib.hid (below_trans B1.out ((below_alloc (Below.refl _ w1) _).trans hB)); clear hA hB)
  | (go_at_call 62; refine (HM.out _ B2.out).mono ?_; rintro e w3 ⟨rfl, hb⟩; have B3 := Lib.hid (below_trans B2.out hb); clear hb))
 go_ret2
 exact ⟨w3.heap.size, rfl, heap_alloc_new _ _, B3.out.size, below_alloc B3.out _⟩
set_option maxRecDepth 100000 in
theorem fmount_no (w : World) (d : Value) (ss : List (List Int)) (hd : Dk w d ss) (x : Int) (h : (ss.length = 0 ∧ x = 1) ∨ (0 < ss.length ∧ mountsB ss = false ∧ x = 8)) : Calls Tryz.prog 12 #[d] w fun e w' => e = .returned (.tuple #[.pointer none, .int .i64 x]) ∧ Below w.heap.size w w' := by
 have HM := Lib.hid fun w' (hb : Below w.heap.size w w') => mounted_any w' d ss (hd.later hb)
 have HR := Lib.hid (dread w d ss 0 hd (wf_byte (by omega)))
 have HX := Lib.hid (secAt_sec hd.secs.1 0)
 obtain ⟨pd, rfl⟩ := dk_ptr hd
 generalize secAt ss 0 = s at *
 rcases h with ⟨h1, rfl⟩ | ⟨h1, h2, rfl⟩
 ·rw [if_neg (by omega)] at HR
  clear hd h1 HM
  go_enter Tryz.func12, Tryz.ntmps12
  go_wp2_with (first
   | (go_at_call 48; refine HR.out.mono ?_; rintro e w1 ⟨rfl, hb⟩; have B1 := Lib.hid hb; clear hb)
   | (refine store_at rfl (.tmp 4) (.tmp 10) rfl rfl w1.heap.size s zero32 rfl rfl HX.out.1 (by decide) (at_lit w1) ?_; intro w2 hA hB _; have B2 := Lib.hid (below_trans B1.out ((below_alloc (Below.refl _ w1) _).trans hB)); clear hA hB))
  go_ret2
  exact ⟨rfl, B2.out⟩
 ·rw [if_pos ⟨by omega, by omega⟩] at HR
  rw [h2] at HM
  clear hd h1 h2
  go_enter Tryz.func12, Tryz.ntmps12
  go_wp2_with (first
   | (go_at_call 48; refine HR.out.mono ?_; rintro e w1 ⟨rfl, hb⟩; have B1 := Lib.hid hb; clear hb)
   | (refine store_at rfl (.tmp 4) (.tmp 10) rfl rfl w1.heap.size s zero32 rfl rfl HX.out.1 (by decide) (at_lit w1) ?_; intro w2 hA hB _; have B2 := Lib.hid (below_trans B1.out ((below_alloc (Below.refl _ w1) _).trans hB)); clear hA hB)
   | (go_at_call 62; refine (HM.out _ B2.out).mono ?_; rintro e w3 ⟨rfl, hb⟩; have B3 := Lib.hid (below_trans B2.out hb); clear hb))
  go_ret2
  exact ⟨rfl, B3.out⟩
def FI (d : Value) (w : World) (F : Nat → Prop) (f : Value) (st : St) : Prop := ∃ g G, f = .pointer (some ⟨g, 0, none⟩) ∧ F g ∧ (∀ b, G b → F b) ∧ FsAt w G g d st
theorem fi_done {d : Value} {w w' : World} {F G : Nat → Prop} {g : Nat} {r : Int × St} {e : Ending} (hF : F g) (hG : ∀ b, G b → F b) (h : PDone (fun b => G b ∧ b < w.heap.size) g d w r e w') : FDone (FI d) F (.pointer (some ⟨g, 0, none⟩)) w r e w' :=
 ⟨h.1, ⟨g, _, rfl, Or.inl hF, fun b hb => hb.imp (fun h => hG b h.1) id, h.2.1⟩, h.2.2.mono fun b hb => hG b hb.1⟩
theorem fi_known {d : Value} {w : World} {F : Nat → Prop} {f : Value} {st : St} {k : Nat} (h : FI d w F f st) (hg : st.good k) (hk : k ≤ 880) : ∃ g, f = .pointer (some ⟨g, 0, none⟩) ∧ FK w g d (nowL st) := by
 obtain ⟨g, G, rfl, _, _, h⟩ := h
 exact ⟨g, rfl, h.known hg (by omega)⟩
theorem sfsIs (d : Value) : SfsIs (FI d) where
 kept := fun w w' F f st ⟨g, G, h1, h2, h3, h4⟩ k => ⟨g, G, h1, h2, h3, ⟨(k.2 g h4.row.lt h2).trans h4.row, dsk.ca_kept _ _ _ _ _ h4.code (k.mono h3), h4.apart⟩⟩
 mono := fun w F G f st ⟨g, H, h1, h2, h3, h4⟩ hFG => ⟨g, H, h1, hFG _ h2, fun b hb => hFG b (h3 b hb), h4⟩
 read := fun w F f st k s h hg hk hm hs => by
  obtain ⟨g, rfl, hk⟩ := fi_known h hg hk
  exact fread w g d _ s hk hm hs
 exist := fun w F f st k s h hg hk hm hs => by
  obtain ⟨g, rfl, hk⟩ := fi_known h hg hk
  exact fexists w g d _ s hk hm hs
 create := fun w F f st k s ⟨g, G, h1, h2, h3, h4⟩ hg hk hm hs => by
  subst h1
  exact (fcreate _ g d st w (fun b hb => hb.2) (fsAt_narrow h4) k hg (by omega) hm s hs).mono fun e w' hd => fi_done h2 h3 hd
 mkdir := fun w F f st k s ⟨g, G, h1, h2, h3, h4⟩ hg hk hm hs => by
  subst h1
  exact (fmkdir _ g d st w (fun b hb => hb.2) (fsAt_narrow h4) k hg (by omega) hm s hs).mono fun e w' hd => fi_done h2 h3 hd
 write := fun w F f st k s off p m c b ⟨g, G, h1, h2, h3, h4⟩ hg hk hm hs ho hb hin hm3 hbb => by
  subst h1
  exact (fwrite _ g d st w (fun b hb => hb.2) (fsAt_narrow h4) k hg (by omega) hm s hs off ho p m c b hb hm3 hbb).mono fun e w' hd => fi_done h2 h3 hd
 append := fun w F f st k s p m c b ⟨g, G, h1, h2, h3, h4⟩ hg hk hm hs hb hin hm3 hbb => by
  subst h1
  exact (fappend _ g d st w (fun b hb => hb.2) (fsAt_narrow h4) k hg (by omega) hm s hs p m c b hb hm3 hbb).mono fun e w' hd => fi_done h2 h3 hd
 trunc := fun w F f st k s z ⟨g, G, h1, h2, h3, h4⟩ hg hk hm hs hz => by
  subst h1
  exact (ftrunc _ g d st w (fun b hb => hb.2) (fsAt_narrow h4) k hg (by omega) hm s hs z hz).mono fun e w' hd => fi_done h2 h3 hd
 rename := fun w F f st k s u ⟨g, G, h1, h2, h3, h4⟩ hg hk hm hs hu => by
  subst h1
  exact (frename _ g d st w (fun b hb => hb.2) (fsAt_narrow h4) k hg (by omega) hm s u hs hu).mono fun e w' hd => fi_done h2 h3 hd
 unlink := fun w F f st k s ⟨g, G, h1, h2, h3, h4⟩ hg hk hm hs => by
  subst h1
  exact (funlink _ g d st w (fun b hb => hb.2) (fsAt_narrow h4) k hg (by omega) hm s hs).mono fun e w' hd => fi_done h2 h3 hd
theorem sfsHas : SfsHas FI where
 mount := fun w F d st k h hg hk hm => by
  have hsn := now_seen st fun x hx => (hg.ws x hx).2
  have hl : (nowL st).length = st.safe.length := now_len st
  unfold mountV at hm
  split at hm
  ·cases hm
  ·rename_i h0
   split at hm
   ·rename_i h1
    refine (fmount_yes w d (nowL st) (Or.inr ⟨F, st, h, hg.fine (by omega), hsn.symm⟩) (by omega) h1).mono ?_
    rintro e w' ⟨g, rfl, hr, hgl, hb⟩
    have hgw := hr.lt
    refine ⟨_, rfl, ⟨g, fun b => F b ∧ b < w.heap.size, rfl, Or.inr ⟨hgl, hgw⟩, fun b hb => Or.inl hb.1, ⟨hr, Go.Proofs.YtpahnfnfoldbhaaGreatDoor.lk.CA.later' (dsk.CA.narrow h) hb, fun hh => by have := hh.2; omega⟩⟩, hb⟩
   ·cases hm
 disk := fun d w F f st k ⟨g, G, h1, h2, h3, h4⟩ hg hk => by
  subst h1
  exact fdisk g d w h4.row
 code := fun d w F f st ⟨g, G, h1, h2, h3, h4⟩ => ca_wide h4.code h3
end fs
namespace fs
set_option maxRecDepth 100000
open Go.ChangeShapes Go.WideShapes Go.ChangeAt Go.RowKit
open rows
open sec
open dsk (build_one St Wr Wr.c CA CodeDone syncR tagsC tagC elem_tags rd_laid)
open ly
open pa
open lk
open al
def syncV (st : St) (s : ByteArray) (kind : Int) (ks : List Int) : Int × St :=
 if (lookV (nowL st) (bys s)).2 ≠ 0 then ((lookV (nowL st) (bys s)).2, st)
 else if (inoAt (nowL st) (lookV (nowL st) (bys s)).1).kind ≠ kind then (6, st)
 else syncR st (ks.map fun k => (k, (lookV (nowL st) (bys s)).1))
def cntW (ws : List Wr) (n : Int) : Nat := (ws.filter fun x => decide (x.id = n)).length
def waitsV (st : St) (s : ByteArray) : Int × Int := if (lookV (nowL st) (bys s)).2 ≠ 0 then (0, (lookV (nowL st) (bys s)).2) else ((cntW st.wait (lookV (nowL st) (bys s)).1 : Nat), 0)
theorem code_done {d : Value} {w w1 w' : World} {G : Nat → Prop} {g : Nat} {st : St} {r : Int × St} {e : Ending} (h : FsAt w G g d st) (hb : Below w.heap.size w w1) (hd : CodeDone CA G d w1 r e w') : PDone G g d w r e w' := by
 obtain ⟨h1, h2, h3⟩ := hd
 have hlt := h.row.lt
 refine ⟨h1, ⟨(h.row.later hb).touch h3 h.apart, ca_wide h2 (fun b hb' => ?_), fun hh => ?_⟩, (dsk.Touch.of_below hb).trans h3⟩
 ·rcases hb' with h | h
  ·exact Or.inl h
  ·exact Or.inr ⟨Nat.le_trans hb.size h.1, h.2⟩
 ·rcases hh with h1 | h1
  ·exact h.apart h1
  ·omega
theorem und_pdF : Tryz.prog.underlying 26 = some (.pointer 109) := by kernel_rfl
theorem ca_some {w : World} {F : Nat → Prop} {d : Value} {st : St} (h : CA w F d st) : ∃ a, d = .pointer (some a) := by
 obtain ⟨z, g, vs, vw, vn, vl, vf, rfl, _⟩ := h
 exact ⟨_, rfl⟩
theorem qlocate (w : World) (g : Nat) (a : Addr) (ss : List (List Int)) (s : ByteArray) (h : FK w g (.pointer (some a)) ss) (hm : Mx w) (hsz : s.size ≤ 100000) :
  Calls Tryz.prog 108 #[.pointer (some ⟨g, 0, none⟩), .string s] w fun e w' => e = .returned (lookT (lookV ss (bys s))) ∧ Below w.heap.size w w' := by
 have HD := Lib.hid (fdisk g _ w h.row)
 have HL := Lib.hid (lookup_any w _ ss s hm h.dk hsz)
 have hq := fun w' => dsk.null_eq und_pdF (some a) w'
 simp only [Option.isNone_some] at hq
 generalize lookV ss (bys s) = lv at *
 obtain ⟨z, er⟩ := lv
 unfold lookT at HL
 simp only at HL
 clear h hm hsz
 go_enter Tryz.func108, Tryz.ntmps108
 go_wp2_with (first | (go_at_call 31; refine HD.out.mono ?_; rintro e w1 ⟨rfl, hw⟩; obtain rfl := hw.symm) | (go_at_call 49; refine HL.out.mono ?_; rintro e w2 ⟨rfl, hb⟩; have B2 := Lib.hid hb; clear hb))
 go_ret2
 exact ⟨rfl, B2.out⟩
theorem qtagsof (w : World) (p : Option Addr) (m c : Nat) : Calls Tryz.prog 110 #[.slice p m c] w fun e w' => e = .returned (.func (.func 161) #[] #[.pointer (some ⟨w.heap.size, 0, none⟩)]) ∧ w' = w.alloc (.cells #[.slice p m c] 39) := by
 go_enter Tryz.func110, Tryz.ntmps110
 go_wp2
 go_ret
 exact ⟨rfl, rfl⟩
theorem tagsC_snoc (ts : List (Int × Int)) (t : Int × Int) : tagsC (ts ++ [t]) = tagsC ts ++ [.int .i64 t.1, .int .i64 t.2] := by simp [tagsC, tagC]
set_option maxRecDepth 100000 in
theorem qtags (w : World) (g : Nat) (p : Option Addr) (m c : Nat) (ks : List Int) (n : Int) (hg : Go.Boxed w g 39 (.slice p m c)) (hr : Rd w 1 (.slice p m c) m (i64s ks)) (hm : m ≤ 10) :
  Calls Tryz.prog 161 #[.int .i64 n, .pointer (some ⟨g, 0, none⟩)] w fun e w' => ∃ p' c', e = .returned (.slice p' m c') ∧ rows.Own w' w.heap.size 90 2 (.slice p' m c') m (tagsC (ks.map fun k => (k, n))) ∧ Below w.heap.size w w' := by
 have hkl : ks.length = m := by have := hr.cells; simpa [i64s] using this
 have hc := hg.cell
 have HR := Lib.hid hr
 have HK := Lib.hid hkl
 have hmi : (m : Int) ≤ 10 := by omega
 clear hg hr hkl
 go_enter Tryz.func161, Tryz.ntmps161
 go_wp2_with fail
 go_loopw [4, 6, 9] (fun ov _ iv wr => ∃ (j : Nat) (q : Option Addr) (kc : Nat), j ≤ m ∧ iv = .int .i64 (j : Int) ∧ ov = .slice q j kc ∧ Hid (rows.Own wr w.heap.size 90 2 (.slice q j kc) j (tagsC ((ks.take j).map fun k => (k, n)))) ∧ Hid (Below w.heap.size w wr)) (fun _ _ iv _ => m - (intOf iv).toNat)
 case atStart => exact ⟨0, none, 0, by omega, rfl, rfl, Lib.hid (own_nil _ _ _ _), Lib.hid (Below.refl _ _)⟩
 case round =>
  obtain ⟨j, q, kc, hj, rfl, rfl, HO, HB⟩ := hrel
  by_cases hlt : j < m
  ·have hlti : (j : Int) < m := by omega
   obtain ⟨b1, o1, rfl, hc1, hm1, hh1, hl1, HR1⟩ := (HR.out.later HB.out).at hlt
   have hr1 := HR1 j hlt
   have HX : Hid ((ks.take (j + 1)).map (fun k => (k, n)) = (ks.take j).map (fun k => (k, n)) ++ [(ks.getD j 0, n)]) := Lib.hid (by
    have hjl : j < ks.length := by rw [HK.out]; exact hlt
    rw [List.take_succ_eq_append_getElem hjl, List.map_append]
    simp [hjl])
   generalize ks.getD j 0 = x at *
   clear HR1 hl1
   go_wp2_with (first
    | (refine wpList_buildTo rfl ?_ ?_)
    | (refine build_one elem_tags (by decide) rfl (.tmp 16) rfl [.int .i64 x, .int .i64 n] rfl rfl ?_)
    | (at_builtin; refine ap_rd elem_tags rfl (.tmp 13) (.tmp 17) rfl w.heap.size _ j _ rfl (HO.out.alloc _) _ 1 [.int .i64 x, .int .i64 n] rfl (rd_laid _ 90 2 [.int .i64 x, .int .i64 n] rfl) (fun u hu => by simp at hu; rcases hu with rfl | rfl <;> rfl) (by omega) (by have := HB.out.size; simp; omega) ?_; intro pa ca wa ho hb; have HO6 : Hid (rows.Own wa w.heap.size 90 2 (.slice pa (j + 1) ca) (j + 1) (tagsC ((ks.take (j + 1)).map fun k => (k, n)))) := Lib.hid (by rw [HX.out, tagsC_snoc]; exact ho); have B6 := Lib.hid (below_trans' (below_alloc HB.out _) hb (Nat.le_refl _)); clear ho hb))
   go_roundw
   case rel => exact ⟨j + 1, pa, ca, by omega, by go_num, rfl, HO6, B6⟩
   case measure => simp [intOf]; omega
  ·obtain rfl : j = m := by omega
   go_wp2_with fail
   go_ret
   exact ⟨q, kc, rfl, by have := HO.out; rw [List.take_of_length_le (by rw [HK.out]; exact Nat.le_refl _)] at this; exact this, HB.out⟩
end fs
namespace fs
set_option maxRecDepth 100000
open Go.ChangeShapes Go.WideShapes Go.ChangeAt Go.RowKit
open rows
open sec
open dsk (wf64 InS size_alloc St Wr Wr.c Wr.c_len w0 CA barrier tagsC csync cbarrier load_wr store_wr atW_new AtW.parts)
open ly
open pa
open lk
open al
set_option maxRecDepth 100000 in
set_option maxHeartbeats 1600000 in
theorem qsettle (w : World) (G : Nat → Prop) (g : Nat) (a : Addr) (st : St) (hGl : ∀ b, G b → b < w.heap.size) (h : FsAt w G g (.pointer (some a)) st) (k : Nat) (hg : st.good k) (hk : k ≤ 880) (hm : Mx w) (s : ByteArray) (hsz : s.size ≤ 100000) (kind : Int) (gk : Nat) (p : Option Addr) (m c : Nat) (ks : List Int) (hgk : Go.Boxed w gk 39 (.slice p m c)) (hr : Rd w 1 (.slice p m c) m (i64s ks)) (hm10 : m ≤ 10) (hks : ∀ x ∈ ks, wf64 x) :
  Calls Tryz.prog 109 #[.pointer (some ⟨g, 0, none⟩), .string s, .int .i64 kind, .func (.func 161) #[] #[.pointer (some ⟨gk, 0, none⟩)]] w (PDone G g (.pointer (some a)) w (syncV st s kind ks)) := by
 have HK := h.known hg (by omega)
 have hsec := HK.dk.secs.1
 have HL := Lib.hid (qlocate w g a (nowL st) s HK hm hsz)
 have HD := Lib.hid fun w' (hb : Below w.heap.size w w') => fdisk g _ w' (h.row.later hb)
 have hzf := lookV_fine hsec (bys s)
 have hkl : ks.length = m := by have := hr.cells; simpa [i64s] using this
 have hgkl : gk < w.heap.size := (Array.getElem?_eq_some_iff.1 hgk).1
 obtain ⟨V, hV⟩ : ∃ V, syncV st s kind ks = V := ⟨_, rfl⟩
 rw [hV]
 unfold syncV at hV
 generalize lookV (nowL st) (bys s) = lv at *
 obtain ⟨z, er⟩ := lv
 unfold lookT at HL
 simp only at HL hV hzf
 by_cases he : er = 0
 ·subst he
  rw [if_neg (by simp)] at hV
  have hf1 := fieldI0 (inoAt (nowL st) z) (inoAt_four hsec z)
  have HI := Lib.hid fun w' (hb : Below w.heap.size w w') => cino_any w' _ (nowL st) z (HK.later hb).dk (wf_byte (by omega))
  generalize aggI (inoAt (nowL st) z) = yv at *
  obtain ⟨kd, hkd⟩ : ∃ kd, (inoAt (nowL st) z).kind = kd := ⟨_, rfl⟩
  rw [hkd] at hf1 hV
  by_cases hkk : kd = kind
  ·subst hkk
   have hne : (kd != kd) = false := by simp
   rw [if_neg (by simp)] at hV
   subst hV
   have HT := Lib.hid fun w' (hb : Below w.heap.size w w') => qtags w' gk p m c ks z ((hb.block gk hgkl).trans hgk) (hr.later hb) hm10
   have HS := Lib.hid fun w' (hb : Below w.heap.size w w') q cq (h2 : Rd w' 2 (.slice q m cq) m (tagsC (ks.map fun k => (k, z)))) (hin : InS (fun b => ¬ G b) (.slice q m cq)) => csync w' G _ st q m cq _ (Go.Proofs.YtpahnfnfoldbhaaGreatDoor.lk.CA.later' h.code hb) (hg.fine (by omega)) h2 hin (by omega) (fun t ht => by
    obtain ⟨x, hx, rfl⟩ := List.mem_map.1 ht
    exact ⟨hks x hx, wf_byte (by omega)⟩)
   have HX := Lib.hid h
   have HGL := Lib.hid hGl
   clear h hGl HK hm hgk hr hks hzf hsec hkl
   go_enter Tryz.func109, Tryz.ntmps109
   go_wp2_with (first
    | (go_at_call 108; refine HL.out.mono ?_; rintro e w2 ⟨rfl, hb⟩; have B2 := Lib.hid hb; clear hb)
    | (go_at_call 115; refine (HI.out _ B2.out).mono ?_; rintro e w3 ⟨rfl, hb⟩; have B3 := Lib.hid (below_trans B2.out hb); clear hb)
    | (go_at_call 161; refine (HT.out _ B3.out).mono ?_; rintro e w4 ⟨q, cq, rfl, ho, hb⟩; have B4 := Lib.hid (below_trans B3.out hb); have O4 := Lib.hid ho; clear ho hb)
    | (go_at_call 160; refine (HS.out _ B4.out _ _ O4.out.rd ((dsk.own_inS O4.out).mono fun b hb hG => by have := HGL.out b hG; have := B3.out.size; have := hb.1; omega)).mono ?_; rintro e w5 hd; have D5 := Lib.hid (code_done HX.out B4.out hd); obtain ⟨rfl, _⟩ := hd)
    | (go_at_call 31; refine (HD.out _ B3.out).mono ?_; rintro e w6 ⟨rfl, hw⟩; obtain rfl := hw.symm)
    | (go_at_call 31; refine (HD.out _ B2.out).mono ?_; rintro e w6 ⟨rfl, hw⟩; obtain rfl := hw.symm))
   go_ret
   exact D5.out
  ·have hne : (kd != kind) = true := by simpa using hkk
   rw [if_pos (by simpa using hkk)] at hV
   subst hV
   have HX := Lib.hid h
   clear h hGl HK hm hgk hr hks hzf hsec hkl
   go_enter Tryz.func109, Tryz.ntmps109
   go_wp2_with (first
    | (go_at_call 108; refine HL.out.mono ?_; rintro e w2 ⟨rfl, hb⟩; have B2 := Lib.hid hb; clear hb)
    | (go_at_call 115; refine (HI.out _ B2.out).mono ?_; rintro e w3 ⟨rfl, hb⟩; have B3 := Lib.hid (below_trans B2.out hb); clear hb)
    | (go_at_call 31; refine (HD.out _ B2.out).mono ?_; rintro e w6 ⟨rfl, hw⟩; obtain rfl := hw.symm))
   go_ret
   exact pdone_same HX.out B3.out
 ·rw [if_pos he] at hV
  subst hV
  have hne : (er != 0) = true := by simpa using he
  have HX := Lib.hid h
  clear h hGl HK hm hgk hr hks hzf hsec hkl
  go_enter Tryz.func109, Tryz.ntmps109
  go_wp2_with (first
   | (go_at_call 108; refine HL.out.mono ?_; rintro e w2 ⟨rfl, hb⟩; have B2 := Lib.hid hb; clear hb))
  go_ret
  exact pdone_same HX.out B2.out
theorem kinds_at (w : World) (l : List Int) (hl : l.length ≤ 10) (hl0 : 0 < l.length) : Go.Boxed ((w.alloc (.cells (i64s l).toArray 3)).alloc (.cells #[.slice (some ⟨w.heap.size, 0, none⟩) l.length l.length] 39)) (w.heap.size + 1) 39 (.slice (some ⟨w.heap.size, 0, none⟩) l.length l.length) ∧ Rd ((w.alloc (.cells (i64s l).toArray 3)).alloc (.cells #[.slice (some ⟨w.heap.size, 0, none⟩) l.length l.length] 39)) 1 (.slice (some ⟨w.heap.size, 0, none⟩) l.length l.length) l.length (i64s l) ∧ Below w.heap.size w ((w.alloc (.cells (i64s l).toArray 3)).alloc (.cells #[.slice (some ⟨w.heap.size, 0, none⟩) l.length l.length] 39)) := by
 have b1 := below_alloc (Below.refl w.heap.size w) (.cells (i64s l).toArray 3)
 have b2 := below_alloc (Below.refl (w.alloc (.cells (i64s l).toArray 3)).heap.size (w.alloc (.cells (i64s l).toArray 3))) (.cells #[.slice (some ⟨w.heap.size, 0, none⟩) l.length l.length] 39)
 refine ⟨?_, ?_, below_trans b1 b2⟩
 ·have := heap_alloc_new (w.alloc (.cells (i64s l).toArray 3)) (.cells #[.slice (some ⟨w.heap.size, 0, none⟩) l.length l.length] 39)
  rw [size_alloc] at this
  exact this
 ·refine Rd.later ?_ b2
  rcases l with _ | ⟨x, t⟩
  ·exact absurd hl0 (by simp)
  ·refine Or.inr ⟨w.heap.size, 0, (x :: t).length, rfl, by simp, Nat.le_refl _, by unfold maxLen; omega, by simp, by simp [i64s], fun i u hi => ?_⟩
   rw [World.cell?_alloc_mark, Nat.zero_add]
   simpa using hi
theorem kinds_wf {l : List Int} (h : ∀ x ∈ l, 0 ≤ x ∧ x < 256 := by decide) : ∀ x ∈ l, wf64 x := fun x hx => wf_byte (h x hx)
set_option maxRecDepth 100000 in
theorem qfsync (w : World) (G : Nat → Prop) (g : Nat) (a : Addr) (st : St) (hGl : ∀ b, G b → b < w.heap.size) (h : FsAt w G g (.pointer (some a)) st) (k : Nat) (hg : st.good k) (hk : k ≤ 880) (hm : Mx w) (s : ByteArray) (hsz : s.size ≤ 100000) :
  Calls Tryz.prog 39 #[.pointer (some ⟨g, 0, none⟩), .string s] w (PDone G g (.pointer (some a)) w (syncV st s 1 [1, 2])) := by
 obtain ⟨h1, h2, h3⟩ := kinds_at w [1, 2] (by decide) (by decide)
 have HS := Lib.hid (qsettle _ G g a st (fun b hb => Nat.lt_of_lt_of_le (hGl b hb) h3.size) (h.later h3) k hg hk (hm.later h3) s hsz 1 _ _ 2 2 [1, 2] h1 h2 (by decide) (kinds_wf (by decide)))
 have B3 := Lib.hid h3
 have HX := Lib.hid h
 clear h hGl hm h1 h2 h3
 go_enter Tryz.func39, Tryz.ntmps39
 go_wp2_with (first
  | (go_at_call 110; refine (qtagsof _ _ _ _).mono ?_; rintro e w2 ⟨rfl, hw⟩; subst hw)
  | (go_at_call 109; refine HS.out.mono ?_; rintro e w5 hd; have D5 := Lib.hid (pdone_from HX.out.row.lt HX.out.apart B3.out hd); obtain ⟨rfl, _⟩ := hd))
 go_ret
 exact D5.out
set_option maxRecDepth 100000 in
theorem qfdata (w : World) (G : Nat → Prop) (g : Nat) (a : Addr) (st : St) (hGl : ∀ b, G b → b < w.heap.size) (h : FsAt w G g (.pointer (some a)) st) (k : Nat) (hg : st.good k) (hk : k ≤ 880) (hm : Mx w) (s : ByteArray) (hsz : s.size ≤ 100000) :
  Calls Tryz.prog 40 #[.pointer (some ⟨g, 0, none⟩), .string s] w (PDone G g (.pointer (some a)) w (syncV st s 1 [1])) := by
 obtain ⟨h1, h2, h3⟩ := kinds_at w [1] (by decide) (by decide)
 have HS := Lib.hid (qsettle _ G g a st (fun b hb => Nat.lt_of_lt_of_le (hGl b hb) h3.size) (h.later h3) k hg hk (hm.later h3) s hsz 1 _ _ 1 1 [1] h1 h2 (by decide) (kinds_wf (by decide)))
 have B3 := Lib.hid h3
 have HX := Lib.hid h
 clear h hGl hm h1 h2 h3
 go_enter Tryz.func40, Tryz.ntmps40
 go_wp2_with (first
  | (go_at_call 110; refine (qtagsof _ _ _ _).mono ?_; rintro e w2 ⟨rfl, hw⟩; subst hw)
  | (go_at_call 109; refine HS.out.mono ?_; rintro e w5 hd; have D5 := Lib.hid (pdone_from HX.out.row.lt HX.out.apart B3.out hd); obtain ⟨rfl, _⟩ := hd))
 go_ret
 exact D5.out
set_option maxRecDepth 100000 in
theorem qsyncdir (w : World) (G : Nat → Prop) (g : Nat) (a : Addr) (st : St) (hGl : ∀ b, G b → b < w.heap.size) (h : FsAt w G g (.pointer (some a)) st) (k : Nat) (hg : st.good k) (hk : k ≤ 880) (hm : Mx w) (s : ByteArray) (hsz : s.size ≤ 100000) :
  Calls Tryz.prog 41 #[.pointer (some ⟨g, 0, none⟩), .string s] w (PDone G g (.pointer (some a)) w (syncV st s 2 [3, 2])) := by
 obtain ⟨h1, h2, h3⟩ := kinds_at w [3, 2] (by decide) (by decide)
 have HS := Lib.hid (qsettle _ G g a st (fun b hb => Nat.lt_of_lt_of_le (hGl b hb) h3.size) (h.later h3) k hg hk (hm.later h3) s hsz 2 _ _ 2 2 [3, 2] h1 h2 (by decide) (kinds_wf (by decide)))
 have B3 := Lib.hid h3
 have HX := Lib.hid h
 clear h hGl hm h1 h2 h3
 go_enter Tryz.func41, Tryz.ntmps41
 go_wp2_with (first
  | (go_at_call 110; refine (qtagsof _ _ _ _).mono ?_; rintro e w2 ⟨rfl, hw⟩; subst hw)
  | (go_at_call 109; refine HS.out.mono ?_; rintro e w5 hd; have D5 := Lib.hid (pdone_from HX.out.row.lt HX.out.apart B3.out hd); obtain ⟨rfl, _⟩ := hd))
 go_ret
 exact D5.out
theorem qbarrier (w : World) (G : Nat → Prop) (g : Nat) (a : Addr) (st : St) (h : FsAt w G g (.pointer (some a)) st) (k : Nat) (hg : st.good k) (hk : k ≤ 880) :
  Calls Tryz.prog 42 #[.pointer (some ⟨g, 0, none⟩)] w (PDone G g (.pointer (some a)) w (barrier st)) := by
 have HD := Lib.hid (fdisk g _ w h.row)
 have HB := Lib.hid (cbarrier w G _ st h.code (hg.fine (by omega)))
 have HX := Lib.hid h
 clear h
 go_enter Tryz.func42, Tryz.ntmps42
 go_wp2_with (first
  | (go_at_call 31; refine HD.out.mono ?_; rintro e w6 ⟨rfl, hw⟩; obtain rfl := hw.symm)
  | (go_at_call 111; refine HB.out.mono ?_; rintro e w5 hd; have D5 := Lib.hid (code_done HX.out (Below.refl _ _) hd); obtain ⟨rfl, _⟩ := hd))
 go_ret
 exact D5.out
theorem cntW_snoc (ws : List Wr) (n : Int) {j : Nat} (h : j < ws.length) : cntW (ws.take (j + 1)) n = cntW (ws.take j) n + if ws[j].id = n then 1 else 0 := by
 rw [cntW, cntW, List.take_succ_eq_append_getElem h, List.filter_append, List.length_append]
 congr 1
 by_cases hq : ws[j].id = n <;> simp [hq]
theorem cntW_le (ws : List Wr) (n : Int) : cntW ws n ≤ ws.length := List.length_filter_le ..
set_option maxRecDepth 100000 in
set_option maxHeartbeats 1600000 in
theorem qwaits (w : World) (G : Nat → Prop) (g : Nat) (a : Addr) (st : St) (h : FsAt w G g (.pointer (some a)) st) (k : Nat) (hg : st.good k) (hk : k ≤ 880) (hm : Mx w) (s : ByteArray) (hsz : s.size ≤ 100000) :
  Calls Tryz.prog 37 #[.pointer (some ⟨g, 0, none⟩), .string s] w fun e w' => e = .returned (.tuple #[.int .i64 (waitsV st s).1, .int .i64 (waitsV st s).2]) ∧ Below w.heap.size w w' := by
 have HK := h.known hg (by omega)
 have hsec := HK.dk.secs.1
 have HL := Lib.hid (qlocate w g a (nowL st) s HK hm hsz)
 have HD := Lib.hid fun w' (hb : Below w.heap.size w w') => fdisk g _ w' (h.row.later hb)
 have HW := Lib.hid fun w' (hb : Below w.heap.size w w') => dsk.cwaitingO w' G _ st (Go.Proofs.YtpahnfnfoldbhaaGreatDoor.lk.CA.later' h.code hb) (hg.fine (by omega))
 have HS := Lib.hid fun x hx => (hg.ws x hx).1
 have hml : st.wait.length ≤ 880 := by have := hg.wn; omega
 obtain ⟨V, hV⟩ : ∃ V, waitsV st s = V := ⟨_, rfl⟩
 rw [hV]
 unfold waitsV at hV
 generalize lookV (nowL st) (bys s) = lv at *
 obtain ⟨z, er⟩ := lv
 unfold lookT at HL
 simp only at HL hV
 generalize st.wait = ws at *
 clear h HK hm hsec hg
 by_cases he : er = 0
 ·subst he
  rw [if_neg (by simp)] at hV
  subst hV
  obtain ⟨m, hwm⟩ : ∃ m, ws.length = m := ⟨_, rfl⟩
  rw [hwm] at HW hml
  have HWL := Lib.hid hwm
  have HLE := Lib.hid (cntW_le ws z)
  clear hwm
  have hmi : (m : Int) ≤ 880 := by omega
  have HWC := Lib.hid fun x hx => Wr.c_len (HS.out x hx)
  go_enter Tryz.func37, Tryz.ntmps37
  go_wp2_with (first
   | (go_at_call 108; refine HL.out.mono ?_; rintro e w2 ⟨rfl, hb⟩; have B2 := Lib.hid hb; clear hb)
   | (go_at_call 31; refine (HD.out _ B2.out).mono ?_; rintro e w6 ⟨rfl, hw⟩; obtain rfl := hw.symm)
   | (go_at_call 47; refine (HW.out _ B2.out).mono ?_; rintro e w3 ⟨p, c, rfl, ho, hb⟩; have R3 := Lib.hid ho.rd; have B3 := Lib.hid (below_trans B2.out hb); clear ho hb))
  go_loopw [8, 24] (fun cv iv wr => ∃ (j c : Nat), j ≤ m ∧ c ≤ j ∧ iv = .int .i64 (j : Int) ∧ cv = .int .i64 (c : Int) ∧ Hid (c = cntW (ws.take j) z) ∧ Hid (Below w3.heap.size w3 wr)) (fun _ iv _ => m - (intOf iv).toNat)
  case atStart => exact ⟨0, 0, by omega, by omega, rfl, rfl, Lib.hid rfl, Lib.hid (Below.refl _ _)⟩
  case round =>
   obtain ⟨j, c', hj, hc', rfl, rfl, HC, HB⟩ := hrel
   by_cases ha : j < m
   ·have ha1 : (j:Int) < m := by omega
    have hjl : j < ws.length := by rw [HWL.out]; exact ha
    obtain ⟨b1, o1, rfl, hc1, hmm1, hh1, hl1, HR1⟩ := dsk.Rd.chunk Wr.c (R3.out.later HB.out) HWC.out (by decide) ha
    have HRG := Lib.hid (HR1 j hjl)
    have HSX := Lib.hid (HS.out _ (List.getElem_mem hjl))
    have HN := Lib.hid (cntW_snoc ws z hjl)
    generalize ws[j] = x at *
    clear HR1 hl1
    by_cases hq : x.id = z
    ·have hqq : (x.id == z) = true := by simpa using hq
     go_wp2_with (first | (refine load_wr rfl (.tmp 26) rfl b1 (o1 + j * 36) rfl x HSX.out HRG.out ?_) | (refine store_wr rfl _ _ rfl rfl wr.heap.size x w0 rfl rfl HSX.out sec_zero (atW_new wr) ?_; intro w5 hx5 hb5; have hbw := Lib.hid (below_trans HB.out ((below_alloc (Below.refl _ wr) _).trans hb5)); clear hb5; obtain ⟨_, _, _, c34, _⟩ := AtW.parts hx5 HSX.out; clear hx5))
     go_roundw
     case rel => exact ⟨j + 1, c' + 1, by omega, by omega, by go_num, by go_num, Lib.hid (by rw [HN.out, if_pos hq, HC.out]), hbw⟩
     case measure => simp [intOf]; omega
    ·have hqq : (x.id == z) = false := by simpa using hq
     go_wp2_with (first | (refine load_wr rfl (.tmp 26) rfl b1 (o1 + j * 36) rfl x HSX.out HRG.out ?_) | (refine store_wr rfl _ _ rfl rfl wr.heap.size x w0 rfl rfl HSX.out sec_zero (atW_new wr) ?_; intro w5 hx5 hb5; have hbw := Lib.hid (below_trans HB.out ((below_alloc (Below.refl _ wr) _).trans hb5)); clear hb5; obtain ⟨_, _, _, c34, _⟩ := AtW.parts hx5 HSX.out; clear hx5))
     go_roundw
     case rel => exact ⟨j + 1, c', by omega, by omega, by go_num, by go_num, Lib.hid (by rw [HN.out, if_neg hq, HC.out]; rfl), hbw⟩
     case measure => simp [intOf]; omega
   ·obtain rfl : j = m := by omega
    go_wp2_with fail
    go_ret2
    refine ⟨?_, below_trans B3.out HB.out⟩
    have := HC.out
    rw [List.take_of_length_le (by rw [HWL.out]; exact Nat.le_refl _)] at this
    subst this
    rfl
 ·rw [if_pos he] at hV
  subst hV
  have hne : (er != 0) = true := by simpa using he
  go_enter Tryz.func37, Tryz.ntmps37
  go_wp2_with (first
   | (go_at_call 108; refine HL.out.mono ?_; rintro e w2 ⟨rfl, hb⟩; have B2 := Lib.hid hb; clear hb))
  go_ret2
  exact ⟨rfl, B2.out⟩
end fs
namespace fs
set_option maxRecDepth 100000
open Go.ChangeShapes Go.WideShapes Go.ChangeAt Go.RowKit
open rows
open sec
open dsk (wf64 InS St Wr.c CA barrier cfail)
open ly
open pa
open lk
open al
def fDo7 (st : St) (a : FAct) : Int × St := if a.kind = 7 then (0, dsk.fail st a.bad) else fDo st a
def qDo (st : St) (a : FAct) : Int × St :=
 if a.kind = 8 then syncV st a.p 1 [1, 2] else if a.kind = 9 then syncV st a.p 1 [1] else if a.kind = 10 then syncV st a.p 2 [3, 2] else if a.kind = 11 then barrier st else fDo7 st a
structure BadIn (w : World) (a : FAct) (p2 : Option Addr) (n2 c2 : Nat) : Prop where
 rd : Rd w 1 (.slice p2 n2 c2) n2 (i64s a.bad)
 few : n2 ≤ 30
 wf : ∀ x ∈ a.bad, wf64 x
theorem BadIn.later {w w' : World} {a : FAct} {p2 : Option Addr} {n2 c2 : Nat} (h : BadIn w a p2 n2 c2) (k : Below w.heap.size w w') : BadIn w' a p2 n2 c2 := ⟨h.rd.later k, h.few, h.wf⟩
theorem BadIn.len {w : World} {a : FAct} {p2 : Option Addr} {n2 c2 : Nat} (h : BadIn w a p2 n2 c2) : a.bad.length ≤ 30 := by
 have := h.rd.cells
 have h2 := h.few
 simp [i64s] at this
 omega
theorem fsync_fi (d : Value) (w : World) (F : Nat → Prop) (f : Value) (st : St) (k : Nat) (s : ByteArray) (h : FI d w F f st) (hg : st.good k) (hk : k ≤ 880) (hm : Mx w) (hs : s.size ≤ 100000) : Calls Tryz.prog 39 #[f, .string s] w (FDone (FI d) F f w (syncV st s 1 [1, 2])) := by
 obtain ⟨g, G, rfl, h2, h3, h4⟩ := h
 obtain ⟨a, rfl⟩ := ca_some h4.code
 exact (qfsync w _ g a st (fun b hb => hb.2) (fsAt_narrow h4) k hg hk hm s hs).mono fun e w' hd => fi_done h2 h3 hd
theorem fdata_fi (d : Value) (w : World) (F : Nat → Prop) (f : Value) (st : St) (k : Nat) (s : ByteArray) (h : FI d w F f st) (hg : st.good k) (hk : k ≤ 880) (hm : Mx w) (hs : s.size ≤ 100000) : Calls Tryz.prog 40 #[f, .string s] w (FDone (FI d) F f w (syncV st s 1 [1])) := by
 obtain ⟨g, G, rfl, h2, h3, h4⟩ := h
 obtain ⟨a, rfl⟩ := ca_some h4.code
 exact (qfdata w _ g a st (fun b hb => hb.2) (fsAt_narrow h4) k hg hk hm s hs).mono fun e w' hd => fi_done h2 h3 hd
theorem syncdir_fi (d : Value) (w : World) (F : Nat → Prop) (f : Value) (st : St) (k : Nat) (s : ByteArray) (h : FI d w F f st) (hg : st.good k) (hk : k ≤ 880) (hm : Mx w) (hs : s.size ≤ 100000) : Calls Tryz.prog 41 #[f, .string s] w (FDone (FI d) F f w (syncV st s 2 [3, 2])) := by
 obtain ⟨g, G, rfl, h2, h3, h4⟩ := h
 obtain ⟨a, rfl⟩ := ca_some h4.code
 exact (qsyncdir w _ g a st (fun b hb => hb.2) (fsAt_narrow h4) k hg hk hm s hs).mono fun e w' hd => fi_done h2 h3 hd
theorem barrier_fi (d : Value) (w : World) (F : Nat → Prop) (f : Value) (st : St) (k : Nat) (h : FI d w F f st) (hg : st.good k) (hk : k ≤ 880) : Calls Tryz.prog 42 #[f] w (FDone (FI d) F f w (barrier st)) := by
 obtain ⟨g, G, rfl, h2, h3, h4⟩ := h
 obtain ⟨a, rfl⟩ := ca_some h4.code
 exact (qbarrier w _ g a st (fsAt_narrow h4) k hg hk).mono fun e w' hd => fi_done h2 h3 hd
theorem waits_fi (d : Value) (w : World) (F : Nat → Prop) (f : Value) (st : St) (k : Nat) (s : ByteArray) (h : FI d w F f st) (hg : st.good k) (hk : k ≤ 880) (hm : Mx w) (hs : s.size ≤ 100000) : Calls Tryz.prog 37 #[f, .string s] w fun e w' => e = .returned (.tuple #[.int .i64 (waitsV st s).1, .int .i64 (waitsV st s).2]) ∧ Below w.heap.size w w' := by
 obtain ⟨g, G, rfl, h2, h3, h4⟩ := h
 obtain ⟨a, rfl⟩ := ca_some h4.code
 exact qwaits w _ g a st (fsAt_narrow h4) k hg hk hm s hs
theorem fail_fi (d : Value) (w w1 : World) (F : Nat → Prop) (f : Value) (st : St) (k : Nat) (zs : List Int) (p : Option Addr) (q c : Nat) (h : FI d w F f st) (hg : st.good k) (hk : k ≤ 880) (hb : Below w.heap.size w w1) (hr : Rd w1 1 (.slice p q c) q (i64s zs)) (hin : InS (fun b => ¬ F b) (.slice p q c)) (hq : q ≤ 50) (hwz : ∀ x ∈ zs, wf64 x) :
  Calls Tryz.prog 82 #[d, .slice p q c] w1 fun e w' => e = .returned (.tuple #[]) ∧ FDone (FI d) F f w (0, dsk.fail st zs) (.returned (.int .i64 0)) w' := by
 obtain ⟨g, G, rfl, h2, h3, h4⟩ := h
 have h5 := fsAt_narrow h4
 refine (cfail w1 _ d st p q c zs (Go.Proofs.YtpahnfnfoldbhaaGreatDoor.lk.CA.later' h5.code hb) (hg.fine (by omega)) hr (fun a n c' hv hn hh => hin a n c' hv hn (h3 _ hh.1)) hq hwz).mono ?_
 rintro e w' ⟨rfl, hc, ht⟩
 exact ⟨rfl, fi_done h2 h3 (code_done h5 hb ⟨rfl, hc, ht⟩)⟩
set_option maxRecDepth 100000 in
set_option maxHeartbeats 1600000 in
theorem ldo7_any (d : Value) (w : World) (F : Nat → Prop) (f : Value) (st : St) (k : Nat) (hf : FI d w F f st) (hg : st.good k) (hk : k ≤ 880) (hm : Mx w) (a : FAct) (p1 : Option Addr) (n1 c1 : Nat) (p2 : Option Addr) (n2 c2 : Nat) (ha : ActIn w a (.slice p1 n1 c1) (.slice p2 n2 c2)) (hin : InS (fun x => ¬ F x) (.slice p1 n1 c1)) (hb : BadIn w a p2 n2 c2) (hbin : InS (fun x => ¬ F x) (.slice p2 n2 c2)) :
  Calls Tryz.prog 23 #[f, .agg (actC a (.slice p1 n1 c1) (.slice p2 n2 c2))] w (FDone (FI d) F f w (fDo7 st a)) := by
 by_cases h7 : a.kind = 7
 ·rw [fDo7, if_pos h7]
  obtain ⟨kd, pp, qq, nn, bb, bad⟩ := a
  simp only at h7
  subst h7
  have B1 := Lib.hid (below_alloc (Below.refl w.heap.size w) (.cells #[.int .i64 7, .string pp, .string qq, .int .i64 nn, .slice p1 n1 c1, .slice p2 n2 c2] 41))
  have HX := Lib.hid hf
  have HDI := Lib.hid fun w' (hb : Below w.heap.size w w') => sfsHas.disk d w' F f st k ((sfsIs d).later hf hb) hg hk
  have HFA := Lib.hid fun w' (hb' : Below w.heap.size w w') => fail_fi d w w' F f st k bad p2 n2 c2 hf hg hk hb' (hb.rd.later hb') hbin (by have := hb.few; omega) hb.wf
  clear hf hg hm ha hin hb hbin
  go_enter Tryz.func23, Tryz.ntmps23
  go_wp2_with fail
  go_region_with (first | (go_at_call 31; refine (HDI.out _ (by first | exact B1.out | exact B1.out.drew)).mono ?_; rintro e w2 ⟨rfl, hw⟩; obtain rfl := hw.symm) | (go_at_call 82; refine (HFA.out _ (by first | exact B1.out | exact B1.out.drew)).mono ?_; rintro e w3 ⟨rfl, hd⟩; have D3 := Lib.hid hd; clear hd))
  go_wp2_with fail
  all_goals
   go_ret
   exact D3.out
 ·rw [fDo7, if_neg h7]
  exact ldo_any (sfsIs d) w F f st k hf hg hk hm a p1 n1 c1 p2 n2 c2 ha hin h7
end fs
namespace fs
set_option maxRecDepth 100000
open Go.ChangeShapes Go.WideShapes Go.ChangeAt Go.RowKit
open rows
open sec
open dsk (InS St Wr w0 syncR hasT leftUpto staysB madeB topOf)
open ly
open pa
open lk
open al
set_option maxRecDepth 100000 in
set_option maxHeartbeats 3200000 in
theorem qdo_any (d : Value) (w : World) (F : Nat → Prop) (f : Value) (st : St) (k : Nat) (hf : FI d w F f st) (hg : st.good k) (hk : k ≤ 880) (hm : Mx w) (a : FAct) (p1 : Option Addr) (n1 c1 : Nat) (p2 : Option Addr) (n2 c2 : Nat) (ha : ActIn w a (.slice p1 n1 c1) (.slice p2 n2 c2)) (hin : InS (fun x => ¬ F x) (.slice p1 n1 c1)) (hb : BadIn w a p2 n2 c2) (hbin : InS (fun x => ¬ F x) (.slice p2 n2 c2)) :
  Calls Tryz.prog 43 #[f, .agg (actC a (.slice p1 n1 c1) (.slice p2 n2 c2))] w (FDone (FI d) F f w (qDo st a)) := by
 have HB := Lib.hid (below_alloc (Below.refl w.heap.size w) (.cells (actC a (.slice p1 n1 c1) (.slice p2 n2 c2)) 41))
 have HDO := Lib.hid fun w' (hb' : Below w.heap.size w w') => ldo7_any d w' F f st k ((sfsIs d).later hf hb') hg hk (hm.later hb') a p1 n1 c1 p2 n2 c2 (ha.later hb') hin (hb.later hb') hbin
 have hpz := ha.p
 have H8 := Lib.hid fun w' (hb' : Below w.heap.size w w') => fsync_fi d w' F f st k a.p ((sfsIs d).later hf hb') hg hk (hm.later hb') (by omega)
 have H9 := Lib.hid fun w' (hb' : Below w.heap.size w w') => fdata_fi d w' F f st k a.p ((sfsIs d).later hf hb') hg hk (hm.later hb') (by omega)
 have H10 := Lib.hid fun w' (hb' : Below w.heap.size w w') => syncdir_fi d w' F f st k a.p ((sfsIs d).later hf hb') hg hk (hm.later hb') (by omega)
 have H11 := Lib.hid fun w' (hb' : Below w.heap.size w w') => barrier_fi d w' F f st k ((sfsIs d).later hf hb') hg hk
 have HFR := Lib.hid fun (w1 : World) (r : Int × St) (e : Ending) (w' : World) (hb : Below w.heap.size w w1) (h : FDone (FI d) F f w1 r e w') => fdone_from (sfsIs d) hb h
 obtain ⟨V, hV⟩ : ∃ V, qDo st a = V := ⟨_, rfl⟩
 rw [hV]
 unfold qDo at hV
 clear hf hg hm ha hin hb hbin hpz
 obtain ⟨kd, pp, qq, nn, bb, bad⟩ := a
 simp only at hV H8 H9 H10 HB
 by_cases h8 : kd = 8
 ·subst h8
  rw [if_pos rfl] at hV
  subst hV
  go_enter Tryz.func43, Tryz.ntmps43
  go_wp2_with (go_at_call 39; refine (H8.out _ HB.out).mono ?_; rintro e w2 hd; have D2 := Lib.hid (HFR.out _ _ _ _ HB.out hd); obtain ⟨rfl, _⟩ := hd)
  go_ret
  exact D2.out
 have k8 : (kd == 8) = false := beq_eq_false_iff_ne.2 h8
 rw [if_neg h8] at hV
 by_cases h9 : kd = 9
 ·subst h9
  rw [if_pos rfl] at hV
  subst hV
  clear h8
  go_enter Tryz.func43, Tryz.ntmps43
  go_wp2_with (go_at_call 40; refine (H9.out _ HB.out).mono ?_; rintro e w2 hd; have D2 := Lib.hid (HFR.out _ _ _ _ HB.out hd); obtain ⟨rfl, _⟩ := hd)
  go_ret
  exact D2.out
 have k9 : (kd == 9) = false := beq_eq_false_iff_ne.2 h9
 rw [if_neg h9] at hV
 by_cases h10 : kd = 10
 ·subst h10
  rw [if_pos rfl] at hV
  subst hV
  clear h8 h9
  go_enter Tryz.func43, Tryz.ntmps43
  go_wp2_with (go_at_call 41; refine (H10.out _ HB.out).mono ?_; rintro e w2 hd; have D2 := Lib.hid (HFR.out _ _ _ _ HB.out hd); obtain ⟨rfl, _⟩ := hd)
  go_ret
  exact D2.out
 have k10 : (kd == 10) = false := beq_eq_false_iff_ne.2 h10
 rw [if_neg h10] at hV
 by_cases h11 : kd = 11
 ·subst h11
  rw [if_pos rfl] at hV
  subst hV
  clear h8 h9 h10
  go_enter Tryz.func43, Tryz.ntmps43
  go_wp2_with (go_at_call 42; refine (H11.out _ HB.out).mono ?_; rintro e w2 hd; have D2 := Lib.hid (HFR.out _ _ _ _ HB.out hd); obtain ⟨rfl, _⟩ := hd)
  go_ret
  exact D2.out
 have k11 : (kd == 11) = false := beq_eq_false_iff_ne.2 h11
 rw [if_neg h11] at hV
 subst hV
 clear h8 h9 h10 h11
 go_enter Tryz.func43, Tryz.ntmps43
 go_wp2_with (go_at_call 23; refine (HDO.out _ HB.out).mono ?_; rintro e w2 hd; have D2 := Lib.hid (HFR.out _ _ _ _ HB.out hd); obtain ⟨rfl, _⟩ := hd)
 go_ret
 exact D2.out
theorem syncR_good {st : St} {k : Nat} (h : st.good k) (ts : List (Int × Int)) (hl : ts.length ≤ 50) : (syncR st ts).2.good (k + 1) := by
 have ha1 := dsk.good_asked h
 unfold syncR
 split
 ·exact ha1
 ·have hlen : (dsk.settle st.safe st.wait ts).1.length = st.safe.length := dsk.outOf_len _ _ _
  refine ⟨dsk.outOf_secs _ _ _ h.ss fun x hx => (h.ws x hx).1, by show (dsk.settle st.safe st.wait ts).1.length ≤ 65; rw [hlen]; exact h.n1, fun x hx => ?_, fun e he => ?_, ?_, ?_, h.bn, ha1.ep, ha1.asked⟩
  ·have := h.ws x (dsk.leftUpto_mem _ _ _ x hx)
   refine ⟨this.1, this.2.1, ?_⟩
   show x.pos < ((dsk.settle st.safe st.wait ts).1.length : Int)
   rw [hlen]; exact this.2.2
  ·rcases List.mem_append.1 he with he | he
   ·exact h.es e he
   ·rw [List.mem_singleton.1 he]; exact ⟨by show Sec w0.s; exact sec_zero, hl⟩
  ·have := h.wn
   have h2 := dsk.leftUpto_len (madeB ts (topOf ts st.wait)) st.wait st.wait.length
   show (leftUpto _ _ _).length ≤ k + 1
   omega
  ·have := h.ln; simp; omega
theorem syncV_good {st : St} {k : Nat} (h : st.good k) (s : ByteArray) (kind : Int) (ks : List Int) (hl : ks.length ≤ 50) : (syncV st s kind ks).2.good (k + 1) := by
 unfold syncV
 split
 ·exact good_more h (by omega)
 ·split
  ·exact good_more h (by omega)
  ·exact syncR_good h _ (by simpa using hl)
theorem fail_good {st : St} {k : Nat} (h : st.good k) (zs : List Int) (hl : zs.length ≤ 50) : (dsk.fail st zs).good k :=
 ⟨h.ss, h.n1, h.ws, h.es, h.wn, h.ln, hl, h.ep, ⟨by show (0 : Int) ≤ 0; omega, by show (0 : Int) ≤ (k : Int); omega⟩⟩
theorem fdo7_good {st : St} {k : Nat} (h : st.good k) (a : FAct) (hb : ∀ z ∈ a.b, 0 ≤ z ∧ z < 256) (hbad : a.bad.length ≤ 30) : (fDo7 st a).2.good (k + 10) := by
 unfold fDo7
 split
 ·exact good_more (fail_good h _ (by omega)) (by omega)
 ·exact fdo_good h a hb
theorem qdo_good {st : St} {k : Nat} (h : st.good k) (a : FAct) (hb : ∀ z ∈ a.b, 0 ≤ z ∧ z < 256) (hbad : a.bad.length ≤ 30) : (qDo st a).2.good (k + 10) := by
 unfold qDo
 repeat' split
 ·exact good_more (syncV_good h _ _ _ (by simp)) (by omega)
 ·exact good_more (syncV_good h _ _ _ (by simp)) (by omega)
 ·exact good_more (syncV_good h _ _ _ (by simp)) (by omega)
 ·exact good_more (barrier_good h) (by omega)
 ·exact fdo7_good h a hb hbad
theorem sync_now {st : St} {k : Nat} (h : st.good k) (ts : List (Int × Int)) (hl : ts.length ≤ 50) : nowL (syncR st ts).2 = nowL st := by
 have g := syncR_good h ts hl
 rw [now_seen _ fun x hx => (g.ws x hx).2, now_seen _ fun x hx => (h.ws x hx).2]
 unfold syncR
 split
 ·rfl
 ·exact dsk.seen_settled _ _ _ fun x hx => (h.ws x hx).2.1
theorem syncV_now {st : St} {k : Nat} (h : st.good k) (s : ByteArray) (kind : Int) (ks : List Int) (hl : ks.length ≤ 50) : nowL (syncV st s kind ks).2 = nowL st := by
 unfold syncV
 split
 ·rfl
 ·split
  ·rfl
  ·exact sync_now h _ (by simpa using hl)
theorem left_not (mk : Wr → Bool) (ws : List Wr) : ∀ (j : Nat) (x : Wr), x ∈ leftUpto mk ws j → mk x = false
 | 0, x, h => by simp [leftUpto] at h
 | j + 1, x, h => by
  rw [leftUpto, List.mem_append] at h
  rcases h with h | h
  ·exact left_not mk ws j x h
  ·split at h
   ·rename_i y hy
    split at h
    ·rename_i hs
     rw [List.mem_singleton.1 h]
     unfold staysB at hs
     rw [Bool.and_eq_true] at hs
     simpa using hs.1
    ·simp at h
   ·simp at h
theorem sync_left {st : St} (ts : List (Int × Int)) (h0 : (syncR st ts).1 = 0) : ∀ x ∈ (syncR st ts).2.wait, (x.kind, x.id) ∉ ts := by
 intro x hx
 unfold syncR at h0 hx
 split at h0
 ·cases h0
 ·rename_i ha
  rw [if_neg ha] at hx
  have := left_not _ _ _ x hx
  unfold madeB hasT at this
  rw [Bool.or_eq_false_iff] at this
  simpa using this.1
theorem none_left {st : St} {k : Nat} (h : st.good k) (s : ByteArray) : (∀ x ∈ (syncV (syncV st s 1 [1, 2]).2 s 2 [3, 2]).2.wait, x.id = (lookV (nowL st) (bys s)).1 → ((syncV st s 1 [1, 2]).1 = 0 → x.kind ≠ 1 ∧ x.kind ≠ 2) ∧ ((syncV (syncV st s 1 [1, 2]).2 s 2 [3, 2]).1 = 0 → x.kind ≠ 3 ∧ x.kind ≠ 2)) ∧ ((syncV st s 1 [1, 2]).1 ≠ 0 ∨ (syncV (syncV st s 1 [1, 2]).2 s 2 [3, 2]).1 ≠ 0) := by
 have hn := syncV_now h s 1 [1, 2] (by decide)
 by_cases he : (lookV (nowL st) (bys s)).2 = 0
 ·by_cases hk : (inoAt (nowL st) (lookV (nowL st) (bys s)).1).kind = 1
  ·have e2 : syncV (syncV st s 1 [1, 2]).2 s 2 [3, 2] = (6, (syncV st s 1 [1, 2]).2) := by
    rw [syncV, hn, if_neg (by simpa using he), if_pos (by rw [hk]; decide)]
   have e1 : syncV st s 1 [1, 2] = syncR st ([1, 2].map fun k => (k, (lookV (nowL st) (bys s)).1)) := by
    rw [syncV, if_neg (by simpa using he), if_neg (by simpa using hk)]
   rw [e2]
   refine ⟨fun x hx hid => ⟨fun h0 => ?_, fun h0 => absurd h0 (by show ¬ (6 : Int) = 0; decide)⟩, Or.inr (by show (6 : Int) ≠ 0; decide)⟩
   rw [e1] at h0 hx
   have := sync_left _ h0 x hx
   rw [← hid] at this
   simpa using this
  ·have e1 : syncV st s 1 [1, 2] = (6, st) := by
    rw [syncV, if_neg (by simpa using he), if_pos hk]
   rw [e1]
   refine ⟨fun x hx hid => ⟨fun h0 => absurd h0 (by show ¬ (6 : Int) = 0; decide), fun h0 => ?_⟩, Or.inl (by show (6 : Int) ≠ 0; decide)⟩
   dsimp only at hx h0
   by_cases hk2 : (inoAt (nowL st) (lookV (nowL st) (bys s)).1).kind = 2
   ·have e3 : syncV st s 2 [3, 2] = syncR st ([3, 2].map fun k => (k, (lookV (nowL st) (bys s)).1)) := by
     rw [syncV, if_neg (by simpa using he), if_neg (by simpa using hk2)]
    rw [e3] at h0 hx
    have := sync_left _ h0 x hx
    rw [← hid] at this
    simpa using this
   ·rw [syncV, if_neg (by simpa using he), if_pos hk2] at h0
    cases h0
 ·have e1 : syncV st s 1 [1, 2] = ((lookV (nowL st) (bys s)).2, st) := by rw [syncV, if_pos he]
  have e2 : syncV st s 2 [3, 2] = ((lookV (nowL st) (bys s)).2, st) := by rw [syncV, if_pos he]
  rw [e1]
  dsimp only
  rw [e2]
  exact ⟨fun x hx hid => ⟨fun h0 => absurd h0 he, fun h0 => absurd h0 he⟩, Or.inl he⟩
end fs
namespace fs
set_option maxRecDepth 100000
open Go.ChangeShapes Go.WideShapes Go.ChangeAt Go.RowKit
open rows
open sec
open dsk (InS St st0)
open ly
open pa
open lk
open al
abbrev txS : ByteArray := { data := #[47] }
def sqB : St := (appendV stA txA [120]).2
def sqC : St := (syncV sqB txA 1 [1, 2]).2
def sqD : St := (syncV sqC txS 2 [3, 2]).2
theorem kq_append : (appendV stA txA [120]).1 = 0 := by decide +kernel
theorem kq_waits : waitsV sqB txA = (3, 0) := by decide +kernel
theorem kq_fsync : (syncV sqB txA 1 [1, 2]).1 = 0 := by decide +kernel
theorem kq_dir : (syncV sqC txS 2 [3, 2]).1 = 0 := by decide +kernel
theorem kq_len : sqD.safe.length = 65 := by decide +kernel
theorem kq_wait : sqD.wait.length = 0 := by decide +kernel
theorem kq_not : (syncV sqD txS 1 [1, 2]).1 = 6 := by decide +kernel
theorem kq_name : (cellsOf sqD.safe)[17 * 32 + 16]? = some (.int .u8 97) := by kernel_rfl
theorem kq_data : (cellsOf sqD.safe)[41 * 32]? = some (.int .u8 120) := by kernel_rfl
theorem gqB : sqB.good 20 := append_goodA goodA txA [120] (by decide)
theorem gqC : sqC.good 30 := good_more (syncV_good gqB txA 1 [1, 2] (by decide)) (by decide)
theorem gqD : sqD.good 40 := good_more (syncV_good gqC txS 2 [3, 2] (by decide)) (by decide)
theorem num12 (z : Int) (w : World) : Calls Tryz.prog 38 #[.int .i64 z] w fun e w' => e = .returned (.int .i64 z) ∧ w' = w := by
 go_enter Tryz.func38, Tryz.ntmps38
 go_wp2
 go_ret
 exact ⟨rfl, rfl⟩
theorem rd_oneF (w : World) (e : TypeId) (fr : Nat × Nat) (a : Value) : Rd (w.alloc (.cells #[a] e fr)) 1 (.slice (some ⟨w.heap.size, 0, none⟩) 1 1) 1 [a] := by
 refine Or.inr ⟨w.heap.size, 0, 1, rfl, by omega, Nat.le_refl _, by unfold maxLen; omega, by simp, by rfl, fun i u hi => ?_⟩
 rw [World.cell?_alloc_mark, Nat.zero_add]
 simpa using hi
theorem KF.of {d f : Value} {st : St} {w w' : World} (h : FI d w' (fun b => w.heap.size ≤ b ∧ b < w'.heap.size) f st) {lo : Nat} (hl : lo ≤ w.heap.size) : KF FI lo d f st w' := ⟨_, h, fun b hb => ⟨Nat.le_trans hl hb.1, hb.2⟩⟩
set_option maxRecDepth 100000 in
set_option maxHeartbeats 6400000 in
theorem knows12 (w : World) (hmx : Mx w) :
  Calls Tryz.prog 36 #[] w fun e w' => e = .returned (.bool true) ∧ Below w.heap.size w w' := by
 have HMX := Lib.hid hmx
 have hq := fun p w' => dsk.null_eq und_pfs p w'
 have HCR := Lib.hid fun d w1 f (h : KF FI w.heap.size d f (st0 emptyImg) w1) (hb : Below w.heap.size w w1) => h.elim fun F hF => ((sfsIs d).create w1 F f (st0 emptyImg) 0 txA hF.1 (good_st0 emptyImg_secs (Nat.le_of_eq emptyImg_len)) (by decide) (hmx.later hb) (by decide)).mono fun e w' hd => KF.done hb (Nat.le_refl _) hF.2 hd kn_create
 have HAP := Lib.hid fun d w1 f p c (h : KF FI w.heap.size d f stA w1) (hb : Below w.heap.size w w1) w2 (hb2 : Below w1.heap.size w1 w2) (hr : Rd w2 1 (.slice p 1 c) 1 [.int .u8 120]) (hin : InS (fun b => w1.heap.size ≤ b) (.slice p 1 c)) => h.elim fun F hF => ((sfsIs d).append w2 F f stA 10 txA p 1 c [120] ((sfsIs d).later hF.1 hb2) goodA (by decide) (hmx.later (below_trans hb hb2)) (by decide) hr (fun a m c' hv hm hh => by have h1 := hin a m c' hv hm; have h2 := (hF.2 _ hh).2; omega) (by decide) (by decide)).mono fun e w' hd => KF.done (below_trans hb hb2) (Nat.le_refl _) (fun b h => ⟨(hF.2 b h).1, Nat.lt_of_lt_of_le (hF.2 b h).2 hb2.size⟩) hd kq_append
 have HWA := Lib.hid fun d w1 f (h : KF FI w.heap.size d f sqB w1) (hb : Below w.heap.size w w1) => h.elim fun F hF => waits_fi d w1 F f sqB 20 txA hF.1 gqB (by decide) (hmx.later hb) (by decide)
 rw [kq_waits] at HWA
 have HFS := Lib.hid fun d w1 f (h : KF FI w.heap.size d f sqB w1) (hb : Below w.heap.size w w1) => h.elim fun F hF => (fsync_fi d w1 F f sqB 20 txA hF.1 gqB (by decide) (hmx.later hb) (by decide)).mono fun e w' hd => KF.done hb (Nat.le_refl _) hF.2 hd kq_fsync
 have HSD := Lib.hid fun d w1 f (h : KF FI w.heap.size d f sqC w1) (hb : Below w.heap.size w w1) => h.elim fun F hF => (syncdir_fi d w1 F f sqC 30 txS hF.1 gqC (by decide) (hmx.later hb) (by decide)).mono fun e w' hd => KF.done hb (Nat.le_refl _) hF.2 hd kq_dir
 have HNO := Lib.hid fun d w1 f (h : KF FI w.heap.size d f sqD w1) (hb : Below w.heap.size w w1) => h.elim fun F hF => (fsync_fi d w1 F f sqD 40 txS hF.1 gqD (by decide) (hmx.later hb) (by decide)).mono fun e w' hd => KF.done hb (Nat.le_refl _) hF.2 hd kq_not
 have HDI := Lib.hid fun d w1 f (h : KF FI w.heap.size d f sqD w1) => h.elim fun F hF => sfsHas.disk d w1 F f sqD 40 hF.1 gqD (by decide)
 have HSA := Lib.hid fun d w1 f (h : KF FI w.heap.size d f sqD w1) => h.elim fun F hF => dsk.csafeO w1 F d sqD (sfsHas.code d w1 F f sqD hF.1) (gqD.fine (by decide))
 have HWT := Lib.hid fun d w1 f (h : KF FI w.heap.size d f sqD w1) => h.elim fun F hF => dsk.cwaitingO w1 F d sqD (sfsHas.code d w1 F f sqD hF.1) (gqD.fine (by decide))
 rw [kq_len] at HSA
 rw [kq_wait] at HWT
 clear hmx
 go_enter Tryz.func36, Tryz.ntmps36
 go_upto_region 4 with (first | (go_at_call 29; refine (rempty_any _).mono ?_; rintro e w3 ⟨pe, ce, rfl, hre, hb3⟩; have RE := Lib.hid hre; have B3 := Lib.hid hb3; clear hre hb3) | (go_at_call 28; refine (fresh_any sfsIs sfsHas _ pe ce RE.out).mono ?_; rintro e w4 ⟨af, d, rfl, hf, hb⟩; have K4 := Lib.hid (KF.of hf B3.out.size); have B4 := Lib.hid (below_trans B3.out hb); clear hf hb))
 go_upto_region 5 with (first | (go_at_call 54; refine (HCR.out _ _ _ K4.out B4.out).mono ?_; rintro e w6 ⟨rfl, hk, hb⟩; have K6 := Lib.hid hk; have B6 := Lib.hid hb; clear hk hb; have hcb := Lib.run_convert_bytes_const (P := Tryz.prog) w6 38 5 #[.int .u8 120] 1 1 und_bsF und_u8F) | (go_at_call 80; refine (HAP.out _ _ _ _ _ K6.out B6.out _ (below_alloc (Below.refl _ _) _) (rd_oneF _ _ _ _) (fun a m c hv hm => by cases hv; exact Nat.le_refl _)).mono ?_; rintro e w7 ⟨rfl, hk, hb⟩; have K7 := Lib.hid hk; have B7 := Lib.hid hb; clear hk hb))
 go_upto_region 6 with (go_at_call 37; refine (HWA.out _ _ _ K7.out B7.out).mono ?_; rintro e w8 ⟨rfl, hb⟩; have K8 := Lib.hid (K7.out.later sfsIs hb); have B8 := Lib.hid (below_trans B7.out hb); clear hb)
 go_upto_region 7 with (first | (go_at_call 39; refine (HFS.out _ _ _ K8.out B8.out).mono ?_; rintro e w9 ⟨rfl, hk, hb⟩; have K9 := Lib.hid hk; have B9 := Lib.hid hb; clear hk hb) | (go_at_call 41; refine (HSD.out _ _ _ K9.out B9.out).mono ?_; rintro e w10 ⟨rfl, hk, hb⟩; have K10 := Lib.hid hk; have B10 := Lib.hid hb; clear hk hb))
 go_upto_region 8 with (first | (go_at_call 31; refine (HDI.out _ _ _ K10.out).mono ?_; rintro e wd ⟨rfl, hw⟩; obtain rfl := hw) | (go_at_call 107; refine (HSA.out _ _ _ K10.out).mono ?_; rintro e w11 ⟨ps, cs, rfl, ho, hb⟩; have R11 := Lib.hid ho.rd; have K11 := Lib.hid (K10.out.later sfsIs hb); have B11 := Lib.hid (below_trans B10.out hb); clear ho hb))
 obtain ⟨bs, os, cap, hvs, hc1, hc2, hc3, hbs, _, hcell⟩ := R11.out.resolve_left (fun ⟨_, _, _, h0, _⟩ => by omega)
 cases hvs
 have c17 := hcell _ _ kq_name
 have c41 := hcell _ _ kq_data
 rw [← Nat.add_assoc] at c17
 go_wp2_with (first | (go_at_call 38; refine (num12 _ _).mono ?_; rintro e wn ⟨rfl, hw⟩; obtain rfl := hw.symm) | (go_at_call 31; refine (HDI.out _ _ _ K11.out).mono ?_; rintro e wd ⟨rfl, hw⟩; obtain rfl := hw) | (go_at_call 47; refine (HWT.out _ _ _ K11.out).mono ?_; rintro e w12 ⟨pw, cw, rfl, ho, hb⟩; have K12 := Lib.hid (K11.out.later sfsIs hb); have B12 := Lib.hid (below_trans B11.out hb); clear ho hb) | (go_at_call 39; refine (HNO.out _ _ _ K12.out B12.out).mono ?_; rintro e w13 ⟨rfl, hk, hb⟩; have B13 := Lib.hid hb; clear hk hb))
 go_ret
 exact ⟨rfl, B13.out⟩
end fs
namespace fs
set_option maxRecDepth 100000
open Go.ChangeShapes Go.WideShapes Go.ChangeAt Go.RowKit
open rows
open sec
open dsk (Keeps grow St CA st0 cfrom_yes cfrom_no)
open ly
open pa
open lk
open al
theorem secs_count {w : World} {p : Option Addr} {n c : Nat} {ss : List (List Int)} (hs : Secs ss) (hr : Rd w 32 (.slice p n c) n (cellsOf ss)) : ss.length = n := by
 have := hr.cells
 rw [cellsOf_len hs] at this
 omega
set_option maxRecDepth 100000 in
theorem qfresh (w : World) (p : Option Addr) (n c : Nat) (ss : List (List Int)) (hs : Secs ss) (hr : Rd w 32 (.slice p n c) n (cellsOf ss)) (hn : n ≤ 200) :
  Calls Tryz.prog 28 #[.slice p n c] w fun e w' => Below w.heap.size w w' ∧ ((e = .returned (.pointer none) ∧ mountsB ss = false) ∨ ∃ ad d, e = .returned (.pointer (some ad)) ∧ FI d w' (fun b => w.heap.size ≤ b ∧ b < w'.heap.size) (.pointer (some ad)) (st0 ss) ∧ mountsB ss = true) := by
 have hsl := secs_count hs hr
 by_cases h1 : 1 ≤ n ∧ n ≤ 65
 ·have HF := Lib.hid (cfrom_yes w p n c ss hs hr h1.1 h1.2)
  have hg := good_st0 hs (by omega)
  by_cases hm : mountsB ss = true
  ·have hmv : mountV (st0 ss) = 0 := by
    unfold mountV
    rw [now_st0, hm, if_neg (show ¬ (st0 ss).safe.length = 0 by show ¬ ss.length = 0; omega), if_pos rfl]
   have HM := Lib.hid fun w1 F d (h : CA w1 F d (st0 ss)) => sfsHas.mount w1 F d (st0 ss) 0 h hg (by decide) hmv
   clear hs hr h1 hg hmv
   go_enter Tryz.func28, Tryz.ntmps28
   go_wp2_with (first | (go_at_call 10; refine HF.out.mono ?_; rintro e w1 ⟨ad, rfl, hc, hb⟩; have HC := Lib.hid hc; have B1 := Lib.hid hb; clear hc hb) | (go_at_call 12; refine (HM.out _ _ _ HC.out).mono ?_; rintro e w2 ⟨af, rfl, hf, hb⟩; have HFI := Lib.hid hf; have B2 := Lib.hid hb; clear hf hb))
   go_ret
   have h1 := B1.out
   have h2 := B2.out
   exact ⟨below_trans h1 h2, Or.inr ⟨_, _, rfl, (sfsIs _).mono _ _ _ _ _ HFI.out (fun b hb => by
    have s1 := h1.size
    have s2 := h2.size
    rcases hb with hb | hb <;> omega), hm⟩⟩
  ·have hm0 : mountsB ss = false := by simpa using hm
   have HM := Lib.hid fun w1 F d (h : CA w1 F d (st0 ss)) => fmount_no w1 d ss (Or.inr ⟨F, st0 ss, h, hg.fine (by omega), (now_seen (st0 ss) fun x hx => (by cases hx)).symm⟩) 8 (Or.inr ⟨by omega, hm0, rfl⟩)
   clear hs hr h1 hg hm
   go_enter Tryz.func28, Tryz.ntmps28
   go_wp2_with (first | (go_at_call 10; refine HF.out.mono ?_; rintro e w1 ⟨ad, rfl, hc, hb⟩; have HC := Lib.hid hc; have B1 := Lib.hid hb; clear hc hb) | (go_at_call 12; refine (HM.out _ _ _ HC.out).mono ?_; rintro e w2 ⟨rfl, hb⟩; have B2 := Lib.hid hb; clear hb))
   go_ret
   exact ⟨below_trans B1.out B2.out, Or.inl ⟨rfl, hm0⟩⟩
 ·have HF := Lib.hid (cfrom_no w p n c hn (by omega))
  have HM := Lib.hid fun w1 => fmount_no w1 (.pointer none) [] (Or.inl ⟨rfl, rfl⟩) 1 (Or.inl ⟨rfl, rfl⟩)
  have hm0 : mountsB ss = false := mountsB_no (by omega)
  clear hs hr h1
  go_enter Tryz.func28, Tryz.ntmps28
  go_wp2_with (first | (go_at_call 10; refine HF.out.mono ?_; rintro e w1 ⟨rfl, hb⟩; have B1 := Lib.hid hb; clear hb) | (go_at_call 12; refine (HM.out _).mono ?_; rintro e w2 ⟨rfl, hb⟩; have B2 := Lib.hid hb; clear hb))
  go_ret
  exact ⟨below_trans B1.out B2.out, Or.inl ⟨rfl, hm0⟩⟩
structure QAt (lo : Nat) (d f : Value) (w : World) (F : Nat → Prop) (st : St) (k : Nat) : Prop where
 fi : FI d w F f st
 good : st.good k
 inF : ∀ b, F b → lo ≤ b ∧ b < w.heap.size
theorem QAt.later {lo : Nat} {d f : Value} {w w' : World} {F : Nat → Prop} {st : St} {k : Nat} (h : QAt lo d f w F st k) (hb : Below w.heap.size w w') : QAt lo d f w' F st k :=
 ⟨(sfsIs d).later h.fi hb, h.good, fun b hF => ⟨(h.inF b hF).1, Nat.lt_of_lt_of_le (h.inF b hF).2 hb.size⟩⟩
theorem QAt.kept {lo : Nat} {d f : Value} {w w' : World} {F : Nat → Prop} {st : St} {k : Nat} (h : QAt lo d f w F st k) (hb : Keeps F w w') : QAt lo d f w' F st k :=
 ⟨(sfsIs d).kept _ _ _ _ _ h.fi hb, h.good, fun b hF => ⟨(h.inF b hF).1, Nat.lt_of_lt_of_le (h.inF b hF).2 hb.1⟩⟩
theorem QAt.done {lo : Nat} {d f : Value} {w w' : World} {F : Nat → Prop} {st : St} {k m : Nat} (h : QAt lo d f w F st k) (hlo : lo ≤ w.heap.size) {r : Int × St} {e : Ending} (D : FDone (FI d) F f w r e w') (hg : r.2.good m) : QAt lo d f w' (grow F w w') r.2 m :=
 ⟨D.2.1, hg, fun b hb => by
  have s := D.2.2.size
  rcases hb with hb | hb
  ·have := h.inF b hb; omega
  ·omega⟩
theorem QAt.below {lo : Nat} {d f : Value} {w w' : World} {F : Nat → Prop} {st : St} {k : Nat} (h : QAt lo d f w F st k) (hlo : lo ≤ w.heap.size) {r : Int × St} {e : Ending} (D : FDone (FI d) F f w r e w') : Below lo w w' := D.2.2.below hlo fun b hb => (h.inF b hb).1
theorem QAt.dk {lo : Nat} {d f : Value} {w : World} {F : Nat → Prop} {st : St} {k : Nat} (h : QAt lo d f w F st k) (hk : k ≤ 880) : Dk w d (nowL st) :=
 Or.inr ⟨F, st, sfsHas.code d w F f st h.fi, h.good.fine (by omega), (now_seen st fun x hx => (h.good.ws x hx).2).symm⟩
theorem AX.badIn {W : World} {x : AX} (h : x.ok W) (hl : x.light) : BadIn W x.a x.p2 x.n2 x.c2 := ⟨h.bad, hl.2.2.2, h.bw⟩
theorem load_act6 {ops : Array Oper} {rest : List Oper} {o : Oper} {a : Go.Act} {w : World} {Q : Exit → Go.Act → World → Prop} (hgd : o.guard = none) (x : Operand) (ho : o.op = .load 41 x)
  (b off : Nat) (hx : a.eval x = .pointer (some ⟨b, off, none⟩)) (y : AX) (hg : w.rangeAt b off y.c)
  (h : wpList Tryz.prog ops Q rest (a.put o.dst (.agg (actC y.a (.slice y.p1 y.n1 y.c1) (.slice y.p2 y.n2 y.c2)))) w) : wpList Tryz.prog ops Q (o :: rest) a w :=
 wpList_load_mid hgd 41 x ho b off hx y.c _ hg und_actF rfl (by rw [info_act]; rfl) h
theorem qdo_at {lo : Nat} {d f : Value} {w : World} {F : Nat → Prop} {st : St} {k : Nat} (h : QAt lo d f w F st k) (hk : k ≤ 880) (hm : Mx w) (x : AX) {W : World} (hok : x.ok W) (hl : x.light) (hW : Below W.heap.size W w) (hlo : W.heap.size ≤ lo) :
  Calls Tryz.prog 43 #[f, .agg (actC x.a (.slice x.p1 x.n1 x.c1) (.slice x.p2 x.n2 x.c2))] w (FDone (FI d) F f w (qDo st x.a)) :=
 qdo_any d w F f st k h.fi h.good hk hm x.a x.p1 x.n1 x.c1 x.p2 x.n2 x.c2 ((AX.actIn hok hl).later hW) (fun a m c hv hn hF => by
  have h1 := rd_inS hok.rd a m c hv hn
  have h2 := (h.inF _ hF).1
  omega) ((AX.badIn hok hl).later hW) (fun a m c hv hn hF => by
  have h1 := rd_inS hok.bad a m c hv hn
  have h2 := (h.inF _ hF).1
  omega)
theorem qdo_good' {st : St} {k : Nat} (h : st.good k) {W : World} {x : AX} (hok : x.ok W) (hl : x.light) : (qDo st x.a).2.good (k + 10) :=
 qdo_good h _ hok.bb (AX.badIn hok hl).len
end fs
namespace fs
set_option maxRecDepth 100000
open Go.ChangeShapes Go.WideShapes Go.ChangeAt Go.RowKit
open rows
open sec
open dsk (row_later grow St Wr Wr.c Wr.c_len st0 zero_last LastAt LastAt.lt LastAt.range store_last neq_yields)
open ly
open pa
open lk
open al
def wasL (L : List (List Int)) (j : Nat) : List (List Int) := ((List.range j).map fun i => secAt L ((i : Nat) : Int)) ++ List.replicate (65 - j) zero32
theorem wasL_len (L : List (List Int)) {j : Nat} (hj : j ≤ 65) : (wasL L j).length = 65 := by simp [wasL]; omega
theorem wasL_secs {L : List (List Int)} (h : Secs L) (j : Nat) : Secs (wasL L j) := fun s hs => by
 rcases List.mem_append.1 hs with hs | hs
 ·obtain ⟨i, _, rfl⟩ := List.mem_map.1 hs
  exact secAt_sec h _
 ·rw [List.eq_of_mem_replicate hs]; exact sec_zero
theorem wasL_set (L : List (List Int)) {j : Nat} (hj : j < 65) : (wasL L j).set j (secAt L (j : Int)) = wasL L (j + 1) := by
 rw [wasL, wasL, List.range_succ, List.map_append, List.set_append_right _ _ (by simp), show 65 - j = (65 - (j + 1)) + 1 by omega, List.replicate_succ, List.append_assoc]
 congr 1
 rw [show j - ((List.range j).map fun i => secAt L ((i : Nat) : Int)).length = 0 by simp]
 rfl
theorem wasL_at (L : List (List Int)) {j : Nat} (hj : j < 65) (h : j < (wasL L 65).length) : (wasL L 65)[j] = secAt L (j : Int) := by
 have : (wasL L 65)[j]? = some (secAt L (j : Int)) := by
  rw [wasL, List.getElem?_append_left (by simpa using hj)]
  simp [hj]
 exact Option.some.inj ((List.getElem?_eq_getElem h).symm.trans this)
theorem load_tagM {ops : Array Oper} {rest : List Oper} {o : Oper} {a : Go.Act} {w : World} {Q : Exit → Go.Act → World → Prop} (hgd : o.guard = none) (x : Operand) (ho : o.op = .load 90 x)
  (b off : Nat) (hx : a.eval x = .pointer (some ⟨b, off, none⟩)) (k i : Int) (hg : w.rangeAt b off [.int .i64 k, .int .i64 i])
  (h : wpList Tryz.prog ops Q rest (a.put o.dst (.agg #[.int .i64 k, .int .i64 i])) w) : wpList Tryz.prog ops Q (o :: rest) a w :=
 wpList_load_mid hgd 90 x ho b off hx [.int .i64 k, .int .i64 i] _ hg Tryz.underlying90 rfl (by rw [info_tag]; rfl) h
set_option maxRecDepth 100000 in
set_option maxHeartbeats 16000000 in
theorem flushNone_of (w : World) (p : Option Addr) (n c : Nat) (ss : List (List Int)) (hss : Secs ss) (hr : Rd w 32 (.slice p n c) n (cellsOf ss)) (hnm : n ≤ maxLen) (q : Option Addr) (m cq : Nat) (l : List AX) (hlr : Rd w 6 (.slice q m cq) m ((l.map AX.c).flatten)) (hmm : m ≤ maxLen) (hok : ∀ a ∈ l, a.ok w) (s : ByteArray) (hsm : s.size ≤ maxLen) (hmx : Mx w) :
  Calls Tryz.prog 6 #[.slice p n c, .slice q m cq, .string s] w fun e w' => e = .returned (.bool true) ∧ Below w.heap.size w w' := by
 have HLI := Lib.hid (flight_any q m cq 30 l w (by decide) (Below.refl _ _) hok hlr hmm)
 have HK := Lib.hid fun w' (hb : Below w.heap.size w w') => knows12 w' (hmx.later hb)
 have HFR := Lib.hid fun w' (hb : Below w.heap.size w w') (h200 : n ≤ 200) => qfresh w' p n c ss hss (hr.later hb) h200
 have HMX := Lib.hid hmx
 have HOK := Lib.hid hok
 have HR := Lib.hid hlr
 have HSS := Lib.hid hss
 have HLN := Lib.hid (secs_count hss hr)
 have HNU := Lib.hid fun z w' => num12 z w'
 have hq := fun p w' => dsk.null_eq und_pfs p w'
 have hn9 : (n : Int) ≤ 9223372036854775807 := by unfold maxLen at hnm; omega
 have hm9 : (m : Int) ≤ 9223372036854775807 := by unfold maxLen at hmm; omega
 have hs9 : (s.size : Int) ≤ 9223372036854775807 := by unfold maxLen at hsm; omega
 clear hss hr hlr hok hmx
 by_cases hn2 : n ≤ 200
 ·have d1 : decide ((200:Int) < n) = false := by simp; omega
  go_enter Tryz.func6, Tryz.ntmps6
  go_wp2_with fail
  refine HLI.out.mono ?_
  rintro e w1 ⟨b, rfl, rfl, hb⟩
  clear HLI
  cases b with
  | false =>
   clear hb
   go_wp2_with (go_at_call 36; refine (HK.out _ (Below.refl _ _)).mono ?_; rintro e w2 ⟨rfl, hb2⟩)
   go_ret
   exact ⟨rfl, hb2⟩
  | true =>
   obtain ⟨hn30, hli⟩ := hb rfl
   have HLL := Lib.hid hli
   clear hb hli
   by_cases hs1 : s.size ≤ 100
   ·have d2 : decide ((100:Int) < s.size) = false := by simp; omega
    go_upto_region 3 with (go_at_call 36; refine (HK.out _ (Below.refl _ _)).mono ?_; rintro e w2 ⟨rfl, hb2⟩; have B2 := Lib.hid hb2; clear hb2)
    go_wp2_with fail
    refine (HFR.out _ B2.out hn2).mono ?_
    rintro e w3 ⟨hb3, ⟨rfl, hmb⟩ | ⟨ad, d, rfl, hf, hmb⟩⟩
    ·have B3 := Lib.hid (below_trans B2.out hb3)
     clear hb3 HFR HLL HK
     go_wp2_with fail
     go_ret
     exact ⟨rfl, B3.out⟩
    ·have B3 := Lib.hid (below_trans B2.out hb3)
     have Q0 : Hid (QAt w.heap.size d (.pointer (some ad)) w3 (fun b => w2.heap.size ≤ b ∧ b < w3.heap.size) (st0 ss) (10 * 0)) := Lib.hid ⟨hf, good_st0 HSS.out (by have h1 := hmb; rw [mountsB, Bool.and_eq_true, decide_eq_true_eq] at h1; omega), fun b hb => ⟨Nat.le_trans B2.out.size hb.1, hb.2⟩⟩
     clear hb3 hf hmb HFR HK B2 HSS HLN hn9
     generalize (fun b => w2.heap.size ≤ b ∧ b < w3.heap.size) = F0 at *
     generalize st0 ss = sz at *
     go_wp2_with fail
     go_loopw [8] (fun iv wr => ∃ (i : Nat) (F : Nat → Prop) (st : St), i ≤ m ∧ iv = .int .i64 (i : Int) ∧ Hid (QAt w.heap.size d (.pointer (some ad)) wr F st (10 * i)) ∧ Hid (Below w.heap.size w wr)) (fun iv _ => m - (intOf iv).toNat)
     case atStart => exact ⟨0, F0, sz, by omega, rfl, Q0, B3⟩
     case round =>
      clear Q0 B3
      obtain ⟨i, F, st, hi, rfl, HQ, HB⟩ := hrel
      by_cases hin : i < m
      ·have hin1 : (i:Int) < m := by omega
       have hil : i < l.length := by have := dsk.Rd.count AX.c HR.out (fun _ _ => rfl) (by decide); omega
       obtain ⟨b1, o1, rfl, hc1, hm1, hh1, hl1, HR1⟩ := dsk.Rd.chunk AX.c HR.out (fun _ _ => rfl) (by decide) hin
       have hmem := List.getElem_mem hil
       have HWR := Lib.hid (Rd.rangeLater (HR1 i hil) hh1 HB.out)
       have HDO := Lib.hid (qdo_at HQ.out (by omega) (HMX.out.later HB.out) l[i] (HOK.out _ hmem) (HLL.out _ hmem) HB.out (Nat.le_refl _))
       have HGD := Lib.hid (qdo_good' HQ.out.good (HOK.out _ hmem) (HLL.out _ hmem))
       generalize l[i] = x at *
       clear HR1 hl1 hmem
       go_wp2_with (first | (refine load_act6 rfl (.tmp 55) rfl b1 (o1 + i * 6) rfl x HWR.out ?_) | (go_at_call 43; refine HDO.out.mono ?_; rintro e w5 hd; have Q5 := Lib.hid (HQ.out.done HB.out.size hd HGD.out); have B5 := Lib.hid (HB.out.trans (HQ.out.below HB.out.size hd)); obtain ⟨rfl, _⟩ := hd))
       exact ⟨⟨i + 1, _, _, by omega, by go_num, Q5, B5⟩, by simp [intOf]; omega⟩
      ·obtain rfl : i = m := by omega
       clear HR HOK HLL
       have hkm : 10 * i ≤ 300 := by omega
       obtain ⟨k, hk⟩ : ∃ k, 10 * i = k := ⟨_, rfl⟩
       rw [hk] at HQ hkm
       clear hk
       have HDI := Lib.hid (sfsHas.disk d wr F _ st k HQ.out.fi HQ.out.good (by omega))
       have hz := zero_last
       go_upto_region 12 with (go_at_call 31; refine HDI.out.mono ?_; rintro e wd ⟨rfl, hw⟩; obtain rfl := hw.symm)
       clear hz
       have al5 := below_alloc (Below.refl wr.heap.size wr) (.cells (cellsOf dsk.z65).toArray 85)
       have Q6 := Lib.hid (HQ.out.later al5)
       have B6 := Lib.hid (below_trans HB.out al5)
       have L6 : Hid (LastAt (wr.alloc (.cells (cellsOf dsk.z65).toArray 85)) wr.heap.size (wasL (nowL st) 0)) := Lib.hid (heap_alloc_new _ _)
       have hgF : Hid (∀ b, b = wr.heap.size → F b → False) := Lib.hid (fun b hb hF => by have := (HQ.out.inF b hF).2; omega)
       have hlo : w.heap.size ≤ wr.heap.size := HB.out.size
       clear al5 HB HDI
       have HD0 : Hid (Dk wr d (nowL st)) := Lib.hid (HQ.out.dk (by omega))
       have hgk := HQ.out.good
       have HSL := Lib.hid (HD0.out.secs.1)
       clear HD0 HQ
       obtain ⟨L, hL⟩ : ∃ L, nowL st = L := ⟨_, rfl⟩
       rw [hL] at L6 HSL
       have HL := Lib.hid hL
       clear hL
       generalize hw5 : wr.alloc (.cells (cellsOf dsk.z65).toArray 85) = w5 at *
       generalize wr.heap.size = gw at *
       clear hw5
       have HGK := Lib.hid hgk
       clear hgk
       go_wp2_with fail
       go_loopw [11] (fun iv wr => ∃ (j : Nat), j ≤ 65 ∧ iv = .int .i64 (j : Int) ∧ Hid (LastAt wr gw (wasL L j)) ∧ Hid (dsk.Touch (· = gw) w5 wr)) (fun iv _ => 65 - (intOf iv).toNat)
       case atStart => exact ⟨0, by omega, rfl, L6, Lib.hid (dsk.Touch.of_below (Below.refl _ _))⟩
       case round =>
        clear L6
        obtain ⟨j, hj, rfl, HLA, HT⟩ := hrel
        have Q7 := Lib.hid (Q6.out.kept (HT.out.keeps fun b hb hF => hgF.out b hF hb))
        by_cases hjn : j < 65
        ·have hjn1 : (j:Int) < 65 := by omega
         have hrd := dread wr d L (j : Int) (by have := Q7.out.dk (by omega); rw [HL.out] at this; exact this) (WalkArith.wf_i64 (by omega))
         have HSJ := Lib.hid (secAt_sec HSL.out (j : Int))
         have HSE := Lib.hid (wasL_set L hjn)
         generalize secAt L (j : Int) = sj at *
         generalize (if 0 ≤ (j : Int) ∧ (j : Int) < (L.length : Int) then (0 : Int) else 1) = er at *
         have HRD := Lib.hid hrd
         have hls := wasL_secs HSL.out j
         have hll := wasL_len L hj
         clear hrd
         go_wp2_with (first
          | (go_at_call 48; refine HRD.out.mono ?_; rintro e w7 ⟨rfl, hb7⟩; have HB7 := Lib.hid hb7; clear hb7)
          | (refine store_at rfl (.tmp 12) (.tmp 68) rfl rfl w7.heap.size sj zero32 rfl rfl HSJ.out.1 (by decide) (at_lit w7) ?_; intro w8 hA8 hB8 _; have A8 := Lib.hid hA8; have B8 := Lib.hid (below_trans HB7.out ((below_alloc (Below.refl _ w7) _).trans hB8)); clear hA8 hB8)
          | (refine load_at rfl (.tmp 12) rfl w7.heap.size rfl sj HSJ.out.1 A8.out ?_)
          | (refine store_last rfl _ _ rfl rfl gw j rfl sj rfl HSJ.out (wasL L j) hls (by omega) (row_later HLA.out B8.out HLA.out.lt) ?_; intro w9 hl9 ht9; have HL9 : Hid (LastAt w9 gw (wasL L (j + 1))) := Lib.hid (by rw [← HSE.out]; exact hl9); have HT9 := Lib.hid ((HT.out.trans (dsk.Touch.of_below B8.out)).trans ht9); clear hl9 ht9))
         exact ⟨⟨j + 1, by omega, by go_num, HL9, HT9⟩, by simp [intOf]; omega⟩
        ·obtain rfl : j = 65 := by omega
         have B7 : Hid (Below w.heap.size w wr) := Lib.hid (B6.out.trans (HT.out.below B6.out.size fun b hb => by rw [hb]; exact hlo))
         have hglt := HLA.out.lt
         clear Q6 B6 HT
         have HNL := Lib.hid (none_left HGK.out s)
         have HN1 := Lib.hid (syncV_now HGK.out s 1 [1, 2] (by decide))
         have HG1 := Lib.hid (syncV_good HGK.out s 1 [1, 2] (by decide))
         have HLOO := Lib.hid (lookup_any wr d L s (HMX.out.later B7.out) (by have := Q7.out.dk (by omega); rw [HL.out] at this; exact this) (by omega))
         rw [HL.out] at HNL HN1
         generalize lookV L (bys s) = lv at *
         obtain ⟨z, er⟩ := lv
         unfold lookT at HLOO
         simp only at HLOO HNL
         go_upto_region 18 with (go_at_call 49; refine HLOO.out.mono ?_; rintro e w7 ⟨rfl, hb⟩; have B8 := Lib.hid (below_trans B7.out hb); have Q8 := Lib.hid (Q7.out.later hb); have L8 : Hid (LastAt w7 gw (wasL L 65)) := Lib.hid (row_later HLA.out hb hglt); clear hb)
         have HFS := Lib.hid (fsync_fi d w7 F _ st k s Q8.out.fi Q8.out.good (by omega) (HMX.out.later B8.out) (by omega))
         generalize hr1 : syncV st s 1 [1, 2] = r1 at *
         clear hr1
         obtain ⟨e1, st1⟩ := r1
         simp only at HN1 HG1 HNL
         have HN2 := Lib.hid (syncV_now HG1.out s 2 [3, 2] (by decide))
         have HG2 := Lib.hid (syncV_good HG1.out s 2 [3, 2] (by decide))
         have HSF := Lib.hid fun w' F' (h : QAt w.heap.size d (.pointer (some ad)) w' F' st1 (k + 1)) (hb : Below w.heap.size w w') => syncdir_fi d w' F' _ st1 (k + 1) s h.fi h.good (by omega) (HMX.out.later hb) (by omega)
         generalize hr2 : syncV st1 s 2 [3, 2] = r2 at *
         clear hr2
         obtain ⟨e2, st2⟩ := r2
         simp only at HN2 HG2 HNL
         rw [HN1.out] at HN2
         clear HLOO HN1 Q7 B7 HLA
         go_wp2_with (first
          | (go_at_call 39; refine HFS.out.mono ?_; rintro e w8 hd; have Q9 := Lib.hid (Q8.out.done B8.out.size hd HG1.out); have B9 := Lib.hid (B8.out.trans (Q8.out.below B8.out.size hd)); have L9 : Hid (LastAt w8 gw (wasL L 65)) := Lib.hid (dsk.row_touch L8.out hd.2.2 (fun hF => hgF.out gw rfl hF)); have G9 : Hid (¬ grow F w7 w8 gw) := Lib.hid (fun hh => hh.elim (fun hh => hgF.out gw rfl hh) (fun hh => by have := L8.out.lt; omega)); obtain ⟨rfl, _⟩ := hd)
          | (go_at_call 41; refine (HSF.out _ _ Q9.out B9.out).mono ?_; rintro e w9 hd; have Q10 := Lib.hid (Q9.out.done B9.out.size hd HG2.out); have B10 := Lib.hid (B9.out.trans (Q9.out.below B9.out.size hd)); have L10 : Hid (LastAt w9 gw (wasL L 65)) := Lib.hid (dsk.row_touch L9.out hd.2.2 G9.out); obtain ⟨rfl, _⟩ := hd))
         have HN2 : Hid (nowL st2 = L) := Lib.hid HN2.out
         have HGL := Lib.hid (L10.out.lt)
         have HRG : Hid (∀ j, j < 65 → w9.rangeAt gw (j * 32) (u8s (secAt L (j : Int)))) := Lib.hid (fun j hj => by
          have h := LastAt.range L10.out (wasL_secs HSL.out 65) (k := j) (by rw [wasL_len L (Nat.le_refl _)]; exact hj)
          rw [wasL_at L hj] at h
          exact h)
         obtain ⟨F9, hF9⟩ : ∃ F', F' = grow (grow F w7 w8) w8 w9 := ⟨_, rfl⟩
         rw [← hF9] at Q10
         clear hF9 L8 L9 G9 Q8 Q9 B8 B9 HFS HSF L10 hgF
         go_wp2_with fail
         go_loopw [18] (fun iv wr => ∃ (j : Nat), j ≤ 65 ∧ iv = .int .i64 (j : Int) ∧ Hid (Below w9.heap.size w9 wr)) (fun iv _ => 65 - (intOf iv).toNat)
         case atStart => exact ⟨0, by omega, rfl, Lib.hid (Below.refl _ _)⟩
         case round =>
          obtain ⟨j, hj, rfl, HB⟩ := hrel
          have Q11 := Lib.hid (Q10.out.later HB.out)
          by_cases hjn : j < 65
          ·have hjn1 : (j:Int) < 65 := by omega
           have hrd := dread wr d L (j : Int) (by have := Q11.out.dk (by omega); rw [HN2.out] at this; exact this) (WalkArith.wf_i64 (by omega))
           have HSJ := Lib.hid (secAt_sec HSL.out (j : Int))
           have HRJ := Lib.hid (HRG.out j hjn)
           generalize secAt L (j : Int) = sj at *
           generalize (if 0 ≤ (j : Int) ∧ (j : Int) < (L.length : Int) then (0 : Int) else 1) = er at *
           have HRD := Lib.hid hrd
           have HSG := guard_sec
           have HEQ : Hid (∀ w, (Op.equalIn 10000 84 (.agg (u8s sj).toArray) (.agg (u8s sj).toArray)).run Tryz.prog w = .ok true w) := Lib.hid fun w => by rw [eqIn_sec w HSJ.out HSJ.out, decide_eq_true rfl]
           clear hrd HRG
           go_upto_region 23 with (first
            | (go_at_call 48; refine HRD.out.mono ?_; rintro e w7 ⟨rfl, hb7⟩; have HB7 := Lib.hid hb7; clear hb7)
            | (refine store_at rfl (.tmp 19) (.tmp 93) rfl rfl w7.heap.size sj zero32 rfl rfl HSJ.out.1 (by decide) (at_lit w7) ?_; intro w8 hA8 hB8 _; have A8 := Lib.hid hA8; have B8 := Lib.hid (below_trans HB7.out ((below_alloc (Below.refl _ w7) _).trans hB8)); clear hA8 hB8))
           have hl8 : w7.heap.size < w8.heap.size := (Array.getElem?_eq_some_iff.1 A8.out).1
           have HR8 := Lib.hid (Rd.rangeLater HRJ.out HGL.out (below_trans HB.out B8.out))
           have hgl8 : gw < w8.heap.size := Nat.lt_of_lt_of_le HGL.out (below_trans HB.out B8.out).size
           refine wp_region_held_drew (S := ext w8.drew) (by kernel_rfl) (Below.refl _ _) (fun hH0 => ?_)
           refine' wpAnyH_take (i := 0) (oi := { dst := some 95, op := Op.load 84 (Operand.tmp 19), type := 84, pos := "law.go:126", after := #[], guard := none }) (v := _) rfl (by kernel_rfl) (by kernel_rfl) (by kernel_rfl) (fun _ _ _ h => h) (ld_sec (by rfl) _ rfl w7.heap.size 0 rfl sj HSJ.out.1 (fun w' hw => At.range (row_later A8.out (below_drew hw) hl8))) (by assumption) ?_
           try simp only [Act.put, List.setIfInBounds_toArray, List.set_cons_zero, List.set_cons_succ]
           refine wpAnyH_take (i := 1) (oi := { dst := some 96, op := Op.move (Operand.tmp 18), type := 3, pos := "law.go:126", after := #[], guard := none }) (v := ?_) rfl (by kernel_rfl) (by kernel_rfl) (by kernel_rfl) (fun _ _ _ h => h) (Or.inl ⟨by rfl, ?_⟩) (by assumption) ?_
           rotate_left
           ·(intro w' hSw; go_simp; try with_reducible rfl)
           try simp only [Act.put, List.setIfInBounds_toArray, List.set_cons_zero, List.set_cons_succ]
           refine wpAnyH_take (i := 2) (oi := { dst := some 97, op := Op.indexAddr 85 (Operand.tmp 10) (Operand.tmp 96), type := 0, pos := "law.go:126", after := #[{ on := 1, ground := Ground.data }], guard := none }) (v := ?_) rfl (by kernel_rfl) (by kernel_rfl) (by kernel_rfl) (fun _ _ _ h => h) (Or.inl ⟨by rfl, ?_⟩) (by assumption) ?_
           rotate_left
           ·(intro w' hSw; go_simp; try with_reducible rfl)
           try simp only [Act.put, List.setIfInBounds_toArray, List.set_cons_zero, List.set_cons_succ]
           refine' wpAnyH_take (i := 3) (oi := { dst := some 98, op := Op.load 84 (Operand.tmp 97), type := 84, pos := "law.go:126", after := #[{ on := 2, ground := Ground.data }], guard := none }) (v := _) rfl (by kernel_rfl) (by kernel_rfl) (by kernel_rfl) (fun _ _ _ h => h) (ld_sec (by rfl) _ rfl gw (j * 32) rfl sj HSJ.out.1 (fun w' hw => Rd.rangeLater HR8.out hgl8 (below_drew hw))) (by assumption) ?_
           try simp only [Act.put, List.setIfInBounds_toArray, List.set_cons_zero, List.set_cons_succ]
           refine' wpAnyH_take (i := 4) (oi := { dst := some 99, op := Op.binOp BinOp.neq 84 (Operand.tmp 95) (Operand.tmp 98) 84, type := 4, pos := "law.go:126", after := #[{ on := 0, ground := Ground.data }, { on := 3, ground := Ground.data }], guard := none }) (v := _) rfl (by kernel_rfl) (by kernel_rfl) (by kernel_rfl) (fun _ _ _ h => h) (neq_yields (by rfl) 84 _ _ _ rfl (u8s sj).toArray (u8s sj).toArray (by rfl) (by rfl) HSG true HEQ.out) (by assumption) ?_
           try simp only [Act.put, List.setIfInBounds_toArray, List.set_cons_zero, List.set_cons_succ]
           refine wpAnyH_done (by kernel_rfl) ?_ _
           go_wp2_with fail
           exact ⟨⟨j + 1, by omega, by go_num, Lib.hid (below_trans (below_trans HB.out B8.out) ((Below.refl w8.heap.size w8).drew))⟩, by simp [intOf]; omega⟩
          ·obtain rfl : j = 65 := by omega
           have B12 := Lib.hid (below_trans B10.out HB.out)
           have hwl : st2.wait.length ≤ 400 := by have := Q11.out.good.wn; omega
           have HWT := Lib.hid (dsk.cwaitingO wr F9 d st2 (sfsHas.code d wr F9 _ st2 Q11.out.fi) (Q11.out.good.fine (by omega)))
           have HS := Lib.hid fun x hx => (Q11.out.good.ws x hx).1
           clear HRG HB
           generalize st2.wait = ws at *
           obtain ⟨nw, hnw⟩ : ∃ nw, ws.length = nw := ⟨_, rfl⟩
           rw [hnw] at HWT hwl
           have HWL := Lib.hid hnw
           have hnw9 : (nw : Int) ≤ 400 := by omega
           have HWC := Lib.hid fun x hx => Wr.c_len (HS.out x hx)
           clear hnw
           go_wp2_with (go_at_call 47; refine HWT.out.mono ?_; rintro e w11 ⟨pw, cw, rfl, ho, hb⟩; have R11 := Lib.hid ho.rd; have B11 := Lib.hid (below_trans B12.out hb); clear ho hb)
           go_loopw [22] (fun iv wr => ∃ (j : Nat), j ≤ nw ∧ iv = .int .i64 (j : Int) ∧ Hid (Below w11.heap.size w11 wr)) (fun iv _ => nw - (intOf iv).toNat)
           case atStart => exact ⟨0, by omega, rfl, Lib.hid (Below.refl _ _)⟩
           case round =>
            obtain ⟨j, hj, rfl, HB⟩ := hrel
            by_cases ha : j < nw
            ·have ha1 : (j:Int) < nw := by omega
             have hjl : j < ws.length := by rw [HWL.out]; exact ha
             obtain ⟨b1, o1, rfl, hc1, hmm1, hh1, hl1, HR1⟩ := dsk.Rd.chunk Wr.c (R11.out.later HB.out) HWC.out (by decide) ha
             have HSX := Lib.hid (HS.out _ (List.getElem_mem hjl))
             have HRT : Hid (wr.rangeAt b1 (o1 + j * 36 + 33) [.int .i64 ws[j].kind, .int .i64 ws[j].id]) := Lib.hid (fun i u hi => by
              obtain ⟨_, _, h33, h34, _⟩ := dsk.wr_parts HSX.out (HR1 j hjl)
              match i with
              | 0 => cases hi; exact h33
              | 1 => cases hi; exact h34
              | i + 2 => simp at hi)
             have HNX := HNL.out.1 _ (List.getElem_mem hjl)
             generalize ws[j] = x at *
             obtain ⟨xp, xs, xk, xi, xe⟩ := x
             simp only at HRT HNX
             clear HR1 hl1 HSX
             go_upto_region 30 with (first | (refine load_tagM rfl (.tmp 111) rfl b1 (o1 + j * 36 + 33) rfl xk xi HRT.out ?_))
             clear HNL HS HWT HWL HWC HRT R11 HL HSL HMX hq HN2
             by_cases hxi : xi = z
             ·have hzz : (xi == z) = true := by simpa using hxi
              obtain ⟨h1, h2⟩ := HNX hxi
              clear HNX hxi
              by_cases he1 : e1 = 0
              ·obtain ⟨n1, n2⟩ := h1 he1
               have k1 : (xk == 1) = false := by simpa using n1
               have k2 : (xk == 2) = false := by simpa using n2
               have q1 : (e1 == 0) = true := by simpa using he1
               by_cases he2 : e2 = 0
               ·have k3 : (xk == 3) = false := by simpa using (h2 he2).1
                have q2 : (e2 == 0) = true := by simpa using he2
                clear h1 h2 he1 he2 n1 n2
                go_wp2_with (go_at_call 38; refine (HNU.out _ _).mono ?_; rintro e wn ⟨rfl, hw⟩; obtain rfl := hw.symm)
                exact ⟨⟨j + 1, by omega, by go_num, Lib.hid (below_alloc HB.out _)⟩, by simp [intOf]; omega⟩
               ·have q2 : (e2 == 0) = false := by simpa using he2
                clear h1 h2 he1 he2 n1 n2
                go_wp2_with (go_at_call 38; refine (HNU.out _ _).mono ?_; rintro e wn ⟨rfl, hw⟩; obtain rfl := hw.symm)
                exact ⟨⟨j + 1, by omega, by go_num, Lib.hid (below_alloc HB.out _)⟩, by simp [intOf]; omega⟩
              ·have q1 : (e1 == 0) = false := by simpa using he1
               by_cases he2 : e2 = 0
               ·have k3 : (xk == 3) = false := by simpa using (h2 he2).1
                have k2 : (xk == 2) = false := by simpa using (h2 he2).2
                have q2 : (e2 == 0) = true := by simpa using he2
                clear h1 h2 he1 he2
                go_wp2_with (go_at_call 38; refine (HNU.out _ _).mono ?_; rintro e wn ⟨rfl, hw⟩; obtain rfl := hw.symm)
                exact ⟨⟨j + 1, by omega, by go_num, Lib.hid (below_alloc HB.out _)⟩, by simp [intOf]; omega⟩
               ·have q2 : (e2 == 0) = false := by simpa using he2
                clear h1 h2 he1 he2
                go_wp2_with (go_at_call 38; refine (HNU.out _ _).mono ?_; rintro e wn ⟨rfl, hw⟩; obtain rfl := hw.symm)
                exact ⟨⟨j + 1, by omega, by go_num, Lib.hid (below_alloc HB.out _)⟩, by simp [intOf]; omega⟩
             ·have hzz : (xi == z) = false := by simpa using hxi
              clear HNX hxi
              go_wp2_with fail
              exact ⟨⟨j + 1, by omega, by go_num, Lib.hid (below_alloc HB.out _)⟩, by simp [intOf]; omega⟩
            ·obtain rfl : j = nw := by omega
             have BF := Lib.hid (below_trans B11.out HB.out)
             have hor := HNL.out.2
             by_cases he1 : e1 = 0
             ·have q1 : (e1 != 0) = false := by simpa using he1
              have q2 : (e2 != 0) = true := by
               rcases hor with h | h
               ·exact absurd he1 h
               ·simpa using h
              clear hor he1
              go_wp2_with (go_at_call 38; refine (HNU.out _ _).mono ?_; rintro e wn ⟨rfl, hw⟩; obtain rfl := hw.symm)
              go_ret
              exact ⟨rfl, BF.out⟩
             ·have q1 : (e1 != 0) = true := by simpa using he1
              clear hor he1
              go_wp2_with (go_at_call 38; refine (HNU.out _ _).mono ?_; rintro e wn ⟨rfl, hw⟩; obtain rfl := hw.symm)
              go_ret
              exact ⟨rfl, BF.out⟩
   ·have d2 : decide ((100:Int) < s.size) = true := by simp; omega
    go_wp2_with (go_at_call 36; refine (HK.out _ (Below.refl _ _)).mono ?_; rintro e w2 ⟨rfl, hb2⟩)
    go_ret
    exact ⟨rfl, hb2⟩
 ·have d1 : decide ((200:Int) < n) = true := by simp; omega
  clear HLI
  go_enter Tryz.func6, Tryz.ntmps6
  go_wp2_with (go_at_call 36; refine (HK.out _ (Below.refl _ _)).mono ?_; rintro e w2 ⟨rfl, hb2⟩)
  go_ret
  exact ⟨rfl, hb2⟩
end fs
namespace fs
set_option maxRecDepth 100000
open Go.ChangeShapes Go.WideShapes Go.ChangeAt Go.RowKit
open rows
open sec
open ly
open lk
theorem walkFlushNone (p : Option Addr) (n c : Nat) (ss : List (List Int)) (q : Option Addr) (m cq : Nat) (l : List AX) (s : ByteArray) (hsm : s.size ≤ maxLen) (w : World) (hr : Rd w 32 (.slice p n c) n (cellsOf ss)) (hnm : n ≤ maxLen) (hss : Secs ss) (hlr : Rd w 6 (.slice q m cq) m ((l.map AX.c).flatten)) (hmm : m ≤ maxLen) (hok : ∀ a ∈ l, a.ok w) (hmx : pa.Mx w) :
  Calls Tryz.prog 6 #[.slice p n c, .slice q m cq, .string s] w fun e w' => e = .returned (.bool true) ∧ Below w.heap.size w w' :=
 flushNone_of w p n c ss hss hr hnm q m cq l hlr hmm hok s hsm hmx
end fs
end Go.Proofs.YtpahnfnfoldbhaaGreatDoor
