/- What SfsTree wants, part 30. -/
import Derived.Test.YtpolbmdnfgjjdaaGreatDoorSfsTreeG
import Derived.Test.YtpolbmdnfgjjdaaGreatDoorSfsTreeZ
import Derived.Test.YtpolbmdnfgjjdaaGreatDoorSfsTreeZA
import Derived.Test.YtpolbmdnfgjjdaaGreatDoorSfsTreeZC
set_option linter.unusedVariables false
set_option linter.unusedSimpArgs false
namespace Go.Proofs.YtpolbmdnfgjjdaaGreatDoor
namespace fs
set_option maxRecDepth 100000
open Go.ChangeShapes Go.WideShapes Go.ChangeAt Go.RowKit
open rows
open sec
open dsk (St Wr.c CA)
open ly
open pa
open lk
open al
set_option maxRecDepth 100000 in
theorem fmount_yes (w : World) (d : Value) (ss : List (List Int)) (hd : Dk w d ss) (hl : 0 < ss.length) (hm : mountsB ss = true) : Calls Tryz.prog 10 #[d] w fun e w' => ∃ g, e = .returned (.tuple #[.pointer (some ⟨g, 0, none⟩), .int .i64 0]) ∧ FR w' g d ∧ w.heap.size ≤ g ∧ Below w.heap.size w w' := by
 have HM := Lib.hid fun w' (hb : Below w.heap.size w w') => mounted_any w' d ss (hd.later hb)
 rw [hm] at HM
 have HR := Lib.hid (dread w d ss 0 hd (wf_byte (by omega)))
 rw [if_pos ⟨by omega, by omega⟩] at HR
 have HX := Lib.hid (secAt_sec hd.secs.1 0)
 obtain ⟨pd, rfl⟩ := dk_ptr hd
 generalize secAt ss 0 = s at *
 clear hd hl hm
 go_enter Tryz.func10, Tryz.ntmps10
 go_wp2_with (first
  | (go_at_call 47; refine HR.out.mono ?_; rintro e w1 ⟨rfl, hb⟩; have B1 := Lib.hid hb; clear hb)
  | (refine store_at rfl (.tmp 4) (.tmp 10) rfl rfl w1.heap.size s zero32 rfl rfl HX.out.1 (by decide) (at_lit w1) ?_; intro w2 hA hB _; have B2 := Lib.hid (below_trans B1.out ((below_alloc (Below.refl _ w1) _).trans hB)); clear hA hB)
  | (go_at_call 48; refine (HM.out _ B2.out).mono ?_; rintro e w3 ⟨rfl, hb⟩; have B3 := Lib.hid (below_trans B2.out hb); clear hb))
 go_ret2
 exact ⟨w3.heap.size, rfl, heap_alloc_new _ _, B3.out.size, below_alloc B3.out _⟩
def FI (d : Value) (w : World) (F : Nat → Prop) (f : Value) (st : St) : Prop := ∃ g G, f = .pointer (some ⟨g, 0, none⟩) ∧ F g ∧ (∀ b, G b → F b) ∧ FsAt w G g d st
theorem fi_done {d : Value} {w w' : World} {F G : Nat → Prop} {g : Nat} {r : Int × St} {e : Ending} (hF : F g) (hG : ∀ b, G b → F b) (h : PDone (fun b => G b ∧ b < w.heap.size) g d w r e w') : FDone (FI d) F (.pointer (some ⟨g, 0, none⟩)) w r e w' :=
 ⟨h.1, ⟨g, _, rfl, Or.inl hF, fun b hb => hb.imp (fun h => hG b h.1) id, h.2.1⟩, h.2.2.mono fun b hb => hG b hb.1⟩
theorem fi_known {d : Value} {w : World} {F : Nat → Prop} {f : Value} {st : St} {k : Nat} (h : FI d w F f st) (hg : st.good k) (hk : k ≤ 880) : ∃ g, f = .pointer (some ⟨g, 0, none⟩) ∧ FK w g d (nowL st) := by
 obtain ⟨g, G, rfl, _, _, h⟩ := h
 exact ⟨g, rfl, h.known hg (by omega)⟩
theorem sfsIs (d : Value) : SfsIs (FI d) where
 kept := fun w w' F f st ⟨g, G, h1, h2, h3, h4⟩ k => ⟨g, G, h1, h2, h3, ⟨(k.2 g h4.row.lt h2).trans h4.row, dsk.ca_kept _ _ _ _ _ h4.code (k.mono h3), h4.apart⟩⟩
 mono := fun w F G f st ⟨g, H, h1, h2, h3, h4⟩ hFG => ⟨g, H, h1, hFG _ h2, fun b hb => hFG b (h3 b hb), h4⟩
 read := fun w F f st k s h hg hk hm hs => by
  obtain ⟨g, rfl, hk⟩ := fi_known h hg hk
  exact fread w g d _ s hk hm hs
 exist := fun w F f st k s h hg hk hm hs => by
  obtain ⟨g, rfl, hk⟩ := fi_known h hg hk
  exact fexists w g d _ s hk hm hs
 create := fun w F f st k s ⟨g, G, h1, h2, h3, h4⟩ hg hk hm hs => by
  subst h1
  exact (fcreate _ g d st w (fun b hb => hb.2) (fsAt_narrow h4) k hg (by omega) hm s hs).mono fun e w' hd => fi_done h2 h3 hd
 mkdir := fun w F f st k s ⟨g, G, h1, h2, h3, h4⟩ hg hk hm hs => by
  subst h1
  exact (fmkdir _ g d st w (fun b hb => hb.2) (fsAt_narrow h4) k hg (by omega) hm s hs).mono fun e w' hd => fi_done h2 h3 hd
 write := fun w F f st k s off p m c b ⟨g, G, h1, h2, h3, h4⟩ hg hk hm hs ho hb hin hm3 hbb => by
  subst h1
  exact (fwrite _ g d st w (fun b hb => hb.2) (fsAt_narrow h4) k hg (by omega) hm s hs off ho p m c b hb hm3 hbb).mono fun e w' hd => fi_done h2 h3 hd
 append := fun w F f st k s p m c b ⟨g, G, h1, h2, h3, h4⟩ hg hk hm hs hb hin hm3 hbb => by
  subst h1
  exact (fappend _ g d st w (fun b hb => hb.2) (fsAt_narrow h4) k hg (by omega) hm s hs p m c b hb hm3 hbb).mono fun e w' hd => fi_done h2 h3 hd
 trunc := fun w F f st k s z ⟨g, G, h1, h2, h3, h4⟩ hg hk hm hs hz => by
  subst h1
  exact (ftrunc _ g d st w (fun b hb => hb.2) (fsAt_narrow h4) k hg (by omega) hm s hs z hz).mono fun e w' hd => fi_done h2 h3 hd
 rename := fun w F f st k s u ⟨g, G, h1, h2, h3, h4⟩ hg hk hm hs hu => by
  subst h1
  exact (frename _ g d st w (fun b hb => hb.2) (fsAt_narrow h4) k hg (by omega) hm s u hs hu).mono fun e w' hd => fi_done h2 h3 hd
 unlink := fun w F f st k s ⟨g, G, h1, h2, h3, h4⟩ hg hk hm hs => by
  subst h1
  exact (funlink _ g d st w (fun b hb => hb.2) (fsAt_narrow h4) k hg (by omega) hm s hs).mono fun e w' hd => fi_done h2 h3 hd
theorem sfsHas : SfsHas FI where
 mount := fun w F d st k h hg hk hm => by
  have hsn := now_seen st fun x hx => (hg.ws x hx).2
  have hl : (nowL st).length = st.safe.length := now_len st
  unfold mountV at hm
  split at hm
  ·cases hm
  ·rename_i h0
   split at hm
   ·rename_i h1
    refine (fmount_yes w d (nowL st) (Or.inr ⟨F, st, h, hg.fine (by omega), hsn.symm⟩) (by omega) h1).mono ?_
    rintro e w' ⟨g, rfl, hr, hgl, hb⟩
    have hgw := hr.lt
    refine ⟨_, rfl, ⟨g, fun b => F b ∧ b < w.heap.size, rfl, Or.inr ⟨hgl, hgw⟩, fun b hb => Or.inl hb.1, ⟨hr, Go.Proofs.YtpolbmdnfgjjdaaGreatDoor.lk.CA.later' (dsk.CA.narrow h) hb, fun hh => by have := hh.2; omega⟩⟩, hb⟩
   ·cases hm
 disk := fun d w F f st k ⟨g, G, h1, h2, h3, h4⟩ hg hk => by
  subst h1
  exact fdisk g d w h4.row
 code := fun d w F f st ⟨g, G, h1, h2, h3, h4⟩ => ca_wide h4.code h3
theorem kn_size : (fileV (nowL stB) txA).2.1.size = 2 ∧ (fileV (nowL stB) txA).2.2 = 0 := by decide +kernel
theorem kn_four : stB.wait.length = 4 := by decide +kernel
theorem knHas : KnHas FI where
 size := fun d w F f h hm => by
  obtain ⟨g, rfl, hk⟩ := fi_known h goodB (by omega)
  have h := fsize w g d _ txA hk hm (by decide)
  rw [kn_size.1, kn_size.2] at h
  exact h
 wait := fun d w F h => by
  have h1 := dsk.cwaitingO w F d stB h (goodB.fine (by omega))
  rw [kn_four] at h1
  refine h1.mono ?_
  rintro e w' ⟨p, c, rfl, ho, hb⟩
  exact ⟨p, c, rfl, ho.rd, (dsk.own_inS ho).mono fun b hb => hb.1, hb⟩
end fs
namespace fs
set_option maxRecDepth 100000
open Go.ChangeShapes Go.WideShapes Go.ChangeAt Go.RowKit
open rows
open sec
open ly
open lk
open al
theorem walkSfsTree (p : Option Addr) (n c : Nat) (l : List AX) (w : World) (h : Rd w 6 (.slice p n c) n ((l.map AX.c).flatten)) (hn : n ≤ maxLen) (hok : ∀ a ∈ l, a.ok w) (hmx : pa.Mx w) :
  Calls Tryz.prog 4 #[.slice p n c] w fun e w' => e = .returned (.bool true) ∧ Below w.heap.size w w' :=
 tree_of sfsIs sfsHas (fun w d ss hd => ccount_any w d ss hd) w (fun w' hb => sfs_knows sfsIs sfsHas knHas w' (hmx.later hb)) p n c l hmx hok h hn
end fs
end Go.Proofs.YtpolbmdnfgjjdaaGreatDoor
