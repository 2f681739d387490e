/- What FlushNone wants, part 26. -/
import Derived.Test.YtpahnfnfoldbhaaGreatDoorFlushNoneH
import Derived.Test.YtpahnfnfoldbhaaGreatDoorFlushNoneL
import Derived.Test.YtpahnfnfoldbhaaGreatDoorFlushNoneO
import Derived.Test.YtpahnfnfoldbhaaGreatDoorFlushNoneP
import Derived.Test.YtpahnfnfoldbhaaGreatDoorFlushNoneQ
import Derived.Test.YtpahnfnfoldbhaaGreatDoorFlushNoneS
import Derived.Test.YtpahnfnfoldbhaaGreatDoorFlushNoneT
import Derived.Test.YtpahnfnfoldbhaaGreatDoorFlushNoneU
import Derived.Test.YtpahnfnfoldbhaaGreatDoorFlushNoneX
import Derived.Test.YtpahnfnfoldbhaaGreatDoorFlushNoneY
import Derived.Test.YtpahnfnfoldbhaaGreatDoorShelf
set_option linter.unusedVariables false
set_option linter.unusedSimpArgs false
namespace Go.Proofs.YtpahnfnfoldbhaaGreatDoor
namespace lk
set_option maxRecDepth 100000
open Go.Sort Go.Lib
open Go.ChangeShapes Go.WideShapes Go.ChangeAt Go.RowKit
open rows
open rng
theorem enc_str (x : ByteArray) : encStr x.data.toList = .string x := by
 show Value.string ⟨x.data.toList.toArray⟩ = .string x
 rw [Array.toArray_toList]
theorem strV_enc (L : List ByteArray) : strV L = (L.map fun x => x.data.toList).map encStr := by
 rw [strV, List.map_map]
 exact List.map_congr_left fun x _ => (enc_str x).symm
theorem own_calm {B0 B : Nat} {w w' : World} {e : TypeId} {sz n : Nat} {v : Value} {cs : List Value} (h : rows.Own w B e sz v n cs) (k : rng.Calm B0 w w') : rows.Own w' B e sz v n cs := by
 refine ⟨h.1, ?_⟩
 rcases h.2 with h2 | ⟨g, cap, cur, hv, h3, h4, h5⟩
 ·exact Or.inl h2
 ·exact Or.inr ⟨g, cap, cur, hv, h3, k.block g _ h4 (Or.inr rfl), h5⟩
theorem own_head {w : World} {B : Nat} {e : TypeId} {p : Option Addr} {n c k : Nat} {cs : List Value} (h : rows.Own w B e 1 (.slice p n c) n cs) (hk : k ≤ n) (hp : p = none → c = 0) : Rd w 1 (.slice p k c) k (cs.take k) := by
 by_cases h0 : k = 0
 ·subst h0
  exact Or.inl ⟨p, c, rfl, rfl, rfl, hp⟩
 ·rcases h.rd with ⟨p', cap', h1, rfl, rfl, h2⟩ | ⟨b, off, cap', h1, h2, h3, h4, h5, h6, h7⟩
  ·omega
  ·cases h1
   refine Or.inr ⟨b, off, c, rfl, by omega, by omega, h4, h5, ?_, fun i u hi => h7 i u ?_⟩
   ·rw [List.length_take, h6]; omega
   ·rw [List.getElem?_take] at hi
    split at hi
    ·exact hi
    ·cases hi
theorem own_none {w : World} {B : Nat} {e : TypeId} {p : Option Addr} {n c : Nat} {cs : List Value} (h : rows.Own w B e 1 (.slice p n c) n cs) : p = none → c = 0 := by
 rintro rfl
 rcases h.2 with ⟨h1, h2⟩ | ⟨g, cap, cur, h1, _⟩
 ·cases h1; rfl
 ·cases h1
theorem csort (p : Option Addr) (n c B : Nat) (zs : List (List UInt8)) (w : World) (hn : n ≤ 1000000) (h : rows.Own w B 9 1 (.slice p n c) n (zs.map encStr)) :
  Calls Tryz.prog 179 #[.slice p n c] w fun e w' => e = .returned (.tuple #[]) ∧ rows.Own w' B 9 1 (.slice p n c) n ((zs.mergeSort fun x y => decide (x ≤ y)).map encStr) ∧ dsk.Touch (fun k => (Value.slice p n c).ownBlock = some k) w w' := by
 have hl : zs.length = n := by
  have := h.1
  simpa using this
 by_cases h0 : n = 0
 ·subst h0
  refine (Tryz.slices_Sort_string_none p c w).mono ?_
  rintro e w' ⟨rfl, rfl⟩
  obtain rfl : zs = [] := List.eq_nil_of_length_eq_zero hl
  exact ⟨rfl, by simpa using h, dsk.Touch.refl _ _⟩
 ·rcases h.2 with ⟨h1, h2⟩ | ⟨g, cap, cur, h1, h2, h3, h4, h5, h6, h7⟩
  ·exact absurd h2 h0
  ·cases h1
   rw [Nat.mul_one] at h7
   subst hl
   refine (Tryz.slices_Sort_string g 0 c zs w (holds_of_block h3 h7) (Array.getElem?_eq_some_iff.1 h3).1 (by omega)).mono ?_
   rintro e w' ⟨rfl, m, os, rfl⟩
   refine ⟨rfl, ownsRow_sorted (List.length_mergeSort _) h2 h3 h4 h5 h6, ?_⟩
   have hg := grownBy_sorted (w := w) (g := g) (n := m) (os := os) (zs.mergeSort fun x y => decide (x ≤ y)).toArray
   exact ⟨hg.os, hg.tape, hg.output, hg.size, fun k hk hn => hg.block k hk fun e => hn (by rw [e]; rfl)⟩
theorem ccompact (p : Option Addr) (n c B : Nat) (ys : List (List UInt8)) (w : World) (hn : n ≤ 1000000) (h : rows.Own w B 9 1 (.slice p n c) n (ys.map encStr)) :
  Calls Tryz.prog 180 #[.slice p n c] w fun e w' => e = .returned (.slice p (Lib.compact ys).length c) ∧ (∃ us, rows.Own w' B 9 1 (.slice p n c) n ((Lib.compact ys ++ us).map encStr)) ∧ dsk.Touch (fun k => (Value.slice p n c).ownBlock = some k) w w' := by
 have hl : ys.length = n := by
  have := h.1
  simpa using this
 by_cases h0 : n = 0
 ·subst h0
  refine (Tryz.slices_Compact_string_empty p c w).mono ?_
  rintro e w' ⟨rfl, rfl⟩
  obtain rfl : ys = [] := List.eq_nil_of_length_eq_zero hl
  exact ⟨rfl, ⟨[], by simpa [Lib.compact, compactUpTo] using h⟩, dsk.Touch.refl _ _⟩
 ·rcases h.2 with ⟨h1, h2⟩ | ⟨g, cap, cur, h1, h2, h3, h4, h5, h6, h7⟩
  ·exact absurd h2 h0
  ·cases h1
   rw [Nat.mul_one] at h7
   subst hl
   refine (Tryz.slices_Compact_string g 0 c ys w (holds_of_block h3 h7) (by omega) h4).mono ?_
   rintro e w' ⟨rfl, q, rfl⟩
   have hlen := compact_length_le ys
   have e1 : (Lib.compact ys ++ List.replicate (ys.length - (Lib.compact ys).length) ([] : List UInt8)).length = ys.length := by
    rw [List.length_append, List.length_replicate]; omega
   generalize List.replicate (ys.length - (Lib.compact ys).length) ([] : List UInt8) = us at *
   refine ⟨rfl, ⟨us, ?_⟩, ?_⟩
   ·have := ownsRow_sorted (w := w) (base := B) (n := q) (os := #[]) (ts := Lib.compact ys ++ us) e1 h2 h3 h4 h5 h6
    rw [grow_empty] at this
    exact this
   ·have hg := grownBy_sorted (w := w) (g := g) (n := q) (os := #[]) (Lib.compact ys ++ us).toArray
    rw [grow_empty] at hg
    exact ⟨hg.os, hg.tape, hg.output, hg.size, fun k hk hn => hg.block k hk fun e => hn (by rw [e]; rfl)⟩
end lk
namespace lk
set_option maxRecDepth 100000
open Go.ChangeShapes Go.WideShapes Go.ChangeAt Go.RowKit
open rows
open sec
open dsk (build_one rd_laid ap_rd3)
open ly
open rng
attribute [local go_sem] Oper.semAt_some
def named (ss : List (List Int)) (l : List Nat) : List ByteArray := l.map fun (k : Nat) => (entAt ss (k : Int)).name
theorem those_len (p : Nat → Bool) (m : Nat) : (those p m).length ≤ m := by
 have := List.length_filter_le p (List.range m)
 rwa [List.length_range] at this
def bytesL (L : List ByteArray) : List (List UInt8) := L.map fun x => x.data.toList
def strsL (l : List (List UInt8)) : List ByteArray := l.map fun x => ⟨x.toArray⟩
theorem strs_enc (l : List (List UInt8)) : strV (strsL l) = l.map encStr := by
 rw [strV, strsL, List.map_map]; rfl
theorem risen_list (ss : List (List Int)) (i : Int) : IsList ss i (strsL (risen (bytesL (named ss (those (inDir ss i) 24))))) := by
 obtain ⟨h1, h2⟩ := risen_is (bytesL (named ss (those (inDir ss i) 24)))
 refine ⟨?_, fun x => ?_⟩
 ·rw [strsL, List.pairwise_map]
  refine h1.imp fun {a b} hab => ?_
  rw [ltS_eq, decide_eq_true_eq]
  simpa [ByteArray.toList_eq] using hab
 ·rw [strsL, List.mem_map]
  constructor
  ·rintro ⟨y, hy, rfl⟩
   obtain ⟨z, hz, rfl⟩ := List.mem_map.1 ((h2 y).1 hy)
   obtain ⟨k, hk, rfl⟩ := List.mem_map.1 hz
   obtain ⟨h3, h4⟩ := those_mem.1 hk
   rw [inDir, Bool.and_eq_true, decide_eq_true_eq] at h4
   exact ⟨k, h3, h4.1, h4.2, by simp⟩
  ·rintro ⟨k, h3, h4, h5, rfl⟩
   refine ⟨(entAt ss (k : Int)).name.data.toList, (h2 _).2 (List.mem_map.2 ⟨_, List.mem_map.2 ⟨k, those_mem.2 ⟨h3, ?_⟩, rfl⟩, rfl⟩), by simp⟩
   rw [inDir, h4, h5, decide_eq_true rfl]; rfl
structure NmsI (w : World) (B : Nat) (ss : List (List Int)) (pre : List Nat) (p : Option Addr) (n c : Nat) (W : World) : Prop where
 box : Go.Boxed W w.heap.size 94 (.slice p n c)
 own : rows.Own W 0 9 1 (.slice p n c) n (strV (named ss pre))
 len : n = pre.length
 low : ∀ k, (Value.slice p n c).ownBlock = some k → B ≤ k
 below : Below w.heap.size w W
theorem NmsI.calm {w : World} {B : Nat} {ss : List (List Int)} {pre : List Nat} {p : Option Addr} {n c : Nat} {a b : World} (h : NmsI w B ss pre p n c a) (hB : w.heap.size ≤ B) (k : rng.Calm B a b) : NmsI w B ss pre p n c b :=
 ⟨k.boxed h.box, own_calm h.own k, h.len, h.low, h.below.trans (k.below hB h.below.size)⟩
theorem own_at {w : World} {B : Nat} {e : TypeId} {sz n : Nat} {v : Value} {cs : List Value} (h : rows.Own w B e sz v n cs) {k : Nat} (hk : v.ownBlock = some k) : ∃ cur, w.heap[k]? = some (.cells cur e (0, 0)) := by
 rcases h.2 with ⟨rfl, _⟩ | ⟨g, cap, cur, rfl, h3, h4, _⟩
 ·simp [Value.ownBlock] at hk
 ·obtain rfl : g = k := by simpa [Value.ownBlock] using hk
  exact ⟨_, h4⟩
theorem boxed_kept {Z : Nat → Prop} {W W' : World} {B : Nat} {t : TypeId} {v : Value} (h : Go.Boxed W B t v) (ht : dsk.Touch Z W W') (hT : ¬ Z B) : Go.Boxed W' B t v := (ht.block B h.lt hT).trans h
theorem string_soft {cur : Array Value} : softE (.cells cur 9 (0, 0)) := ⟨cur, _, _, rfl, by decide, by decide⟩
set_option maxRecDepth 100000 in
set_option maxHeartbeats 2000000 in
theorem list_any (w : World) (d : Value) (ss : List (List Int)) (i : Int) (h : Dk w d ss) : Calls Tryz.prog 128 #[d, .int .i64 i] w fun e w' => ∃ L q m k, IsList ss i L ∧ e = .returned (.slice q m k) ∧ m = L.length ∧ Rd w' 1 (.slice q m k) m (strV L) ∧ Below w.heap.size w w' := by
 have HD := Lib.hid h
 obtain ⟨p, rfl⟩ := dk_ptr h
 clear h
 have hB0 := below_alloc (below_alloc (below_alloc (Below.refl w.heap.size w) (.cells #[.slice none 0 0] 94)) (.cells #[.pointer p] 26)) (.cells #[.int .i64 i] 3)
 have b0 := ((Go.Boxed.new w 94 (.slice none 0 0)).alloc (.cells #[.pointer p] 26)).alloc (.cells #[.int .i64 i] 3)
 have b3 := (Go.Boxed.new (w.alloc (.cells #[.slice none 0 0] 94)) 26 (.pointer p)).alloc (.cells #[.int .i64 i] 3)
 have b4 := Go.Boxed.new ((w.alloc (.cells #[.slice none 0 0] 94)).alloc (.cells #[.pointer p] 26)) 3 (.int .i64 i)
 simp only [World.size_alloc] at b3 b4
 have hsz : (((w.alloc (.cells #[.slice none 0 0] 94)).alloc (.cells #[.pointer p] 26)).alloc (.cells #[.int .i64 i] 3)).heap.size = w.heap.size + 3 := by simp [World.size_alloc]
 obtain ⟨W0, hW0⟩ : ∃ W0, ((w.alloc (.cells #[.slice none 0 0] 94)).alloc (.cells #[.pointer p] 26)).alloc (.cells #[.int .i64 i] 3) = W0 := ⟨_, rfl⟩
 rw [hW0] at hB0 b0 b3 b4 hsz
 have HB0 := Lib.hid hB0
 have B0 := Lib.hid b0
 have B3 := Lib.hid b3
 have B4 := Lib.hid b4
 have HSZ := Lib.hid hsz
 have hwz : w.heap.size ≤ W0.heap.size := by omega
 clear hB0 b0 b3 b4 hsz
 refine (callsIn_wide (n := 10)).1 (callsIn_of_wp_marks Tryz.func128 rfl trivial ?_ rfl)
 simp only [Tryz.ntmps128, List.size_toArray, List.length_cons, List.length_nil, Nat.reduceAdd, Nat.reduceSub, Array.replicate_succ, Array.replicate_zero, List.push_toArray, List.append_toArray, List.nil_append, List.cons_append]
 gi_wp2_with (refine ⟨trivial, ?_⟩; gi_at_call 166; refine (callsIn_wide.2 (cwithin_any _ _ _)).mono ?_; rintro e w2 ⟨rfl, rfl⟩)
 try rw [hW0]
 clear hW0
 refine range_over (gf := 199) (lb := #[.pointer (some ⟨w.heap.size + 1, 0, none⟩), .pointer (some ⟨w.heap.size + 1 + 1, 0, none⟩)]) rfl (enters_of Tryz.func199 (by kernel_rfl) rfl)
  (within_seq w p ss HD.out i (w.heap.size + 1) (w.heap.size + 1 + 1) (fun b o => b = W0.heap.size + 1 ∨ (b = w.heap.size ∨ (W0.heap.size ≤ b ∧ ∃ cur, o = .cells cur 9 (0, 0)))) W0 HB0.out B3.out B4.out (fun b o hb => by have := HSZ.out; omega) (fun o hb => by have := HSZ.out; omega) (fun o hb => by have := HSZ.out; omega))
  (fun b o h => by
   have := HSZ.out
   rcases h with h | ⟨_, cur, rfl⟩
   ·exact Or.inl (by omega)
   ·exact Or.inr string_soft) soft_cells (fun _ => rfl)
  (fun pre W => ∃ q n c, NmsI w W0.heap.size ss pre q n c W)
  (fun c pre W => False)
  (fun s A B ⟨q, n, c, h⟩ hc => ⟨q, n, c, h.calm hwz hc⟩)
  (fun c s A B h hc => h)
  ⟨none, 0, 0, B0.out, own_nil _ _ _ _, rfl, fun k hk => by simp [Value.ownBlock] at hk, HB0.out⟩
  (fun pre k a' W => (∃ q n c, NmsI w W0.heap.size ss pre q n c W) ∧ ∃ Bx, AtE W Bx (entAt ss (k : Int)) ∧ a' = { tmps := #[.pointer p, .int .i64 i, undef, undef, .slice none 0 0, .pointer (some ⟨w.heap.size, 0, none⟩), undef, .pointer (some ⟨Bx, 0, none⟩), .pointer p, .int .i64 i, .func (.func 199) #[] #[.pointer (some ⟨w.heap.size + 1, 0, none⟩), .pointer (some ⟨w.heap.size + 1 + 1, 0, none⟩)], .int .i64 (k : Int), aggE (entAt ss (k : Int)), undef, undef, undef, undef, undef, undef, undef, undef, undef], defers := [] })
  (fun s k a' A B h hc => by
   obtain ⟨⟨q, n, c, h1⟩, Bx, h2, h3⟩ := h
   exact ⟨⟨q, n, c, h1.calm hwz hc⟩, Bx, hc.block _ _ h2 (Or.inr rfl), h3⟩)
  ?assign ?body ?done ?stop
 case assign =>
  rintro l pre k W hI hsz _
  generalize entAt ss (k : Int) = x
  obtain ⟨u, pa, xn, tg⟩ := x
  have HI := Lib.hid hI
  clear hI
  gi_wp2
  have hb := below_alloc (Below.refl W.heap.size W) (.cells #[.bool u, .int .i64 pa, .string xn, .int .i64 tg] 126)
  obtain ⟨q, n, c, hI⟩ := HI.out
  exact ⟨⟨⟨q, n, c, hI.calm hwz (rng.Calm.of_below hb)⟩, W.heap.size, atE_new W ⟨u, pa, xn, tg⟩, rfl⟩, Turn.of_below hb⟩
 case body =>
  rintro l pre k a' W ⟨⟨q, n, c, hI⟩, Bx, hX, rfl⟩ hsz hsp
  have HI := Lib.hid hI
  have hl24 : pre.length + 1 ≤ 24 := by
   have h1 := hsp.length_le
   have h2 := those_len (inDir ss i) 24
   rw [List.length_append] at h1
   simp only [List.length_cons, List.length_nil] at h1
   omega
  have hn24 : n + 1 ≤ 24 := by rw [hI.len]; exact hl24
  have b0 := hI.box.cell
  have f0 := hI.box.frozen
  have x2 := hX.cell2
  obtain ⟨g, hg⟩ : ∃ g, (entAt ss (k : Int)).name = g := ⟨_, rfl⟩
  have HG := Lib.hid hg
  rw [hg] at x2
  generalize aggE (entAt ss (k : Int)) = ax
  have hlow : ∀ k, (Value.slice q n c).ownBlock = some k → k ≠ w.heap.size := fun k hk e => by have := hI.low k hk; have := HSZ.out; omega
  clear hI hsp hg hX
  gi_wp2_with (first | (refine one_in rfl ?_; refine build_one elem_names (by decide) rfl (.tmp 15) rfl [.string g] rfl rfl ?_; refine one_end ?_) | (gi_at_builtin; refine one_in rfl ?_; refine ap_rd3 elem_names rfl (.tmp 13) (.tmp 16) rfl _ n _ rfl (HI.out.own.alloc _) _ 1 [.string g] rfl (rd_laid _ _ _ _ rfl) (fun u hu => by rw [List.mem_singleton.1 hu]; rfl) (by omega) ?_; intro pa ca wa hoa hta hla; have hB8 := boxed_kept (HI.out.box.alloc (.cells [Value.string g].toArray 9)) hta (fun e => hlow _ e rfl); have c8a := hB8.cell; have f8a := hB8.frozen; have HOA := Lib.hid hoa; have HTA := Lib.hid hta; have HLA := Lib.hid hla; have HB8 := Lib.hid hB8; clear hoa hta hla hB8; refine one_end ?_))
  have hWs := HI.out.below.size
  have hz := HSZ.out
  have ht : dsk.Touch (fun k => (Value.slice q n c).ownBlock = some k ∨ k = w.heap.size) W (wa.setCell ⟨w.heap.size, 0, none⟩ (.slice pa (n + 1) ca)) :=
   dsk.Touch.setCell (S := fun k => (Value.slice q n c).ownBlock = some k ∨ k = w.heap.size) (((dsk.Touch.alloc (dsk.Touch.refl _ W) _).trans HTA.out).mono (fun i hi => Or.inl hi)) ⟨w.heap.size, 0, none⟩ (Or.inr rfl) _
  have hlow2 : ∀ k, (Value.slice pa (n + 1) ca).ownBlock = some k → W0.heap.size ≤ k := fun k hk => by
   rcases HLA.out k hk with h | h
   ·exact HI.out.low k h
   ·have := h.1
    rw [World.size_alloc] at this
    omega
  have hnm : strV (named ss (pre ++ [k])) = strV (named ss pre) ++ [.string g] := by
   rw [named, named, List.map_append, strV, strV, List.map_append, List.map_singleton, HG.out]; rfl
  refine ⟨⟨pa, n + 1, ca, HB8.out.set _, ?_, by rw [List.length_append, ← HI.out.len]; rfl, hlow2, HI.out.below.trans (ht.below hWs fun k hk => ?_)⟩, Turn.of_touch' ht fun k o hko hk => ?_⟩
  ·rw [hnm]
   exact dsk.own_kept (S := fun k => W0.heap.size ≤ k) HOA.out hlow2 (dsk.Keeps.set (fun k hk => by omega) _)
  ·rcases hk with hk | rfl
   ·have := HI.out.low k hk; omega
   ·exact Nat.le_refl _
  ·rcases hk with hk | rfl
   ·obtain ⟨cur, hc⟩ := own_at HI.out.own hk
    rw [hko] at hc
    exact Or.inr ⟨HI.out.low k hk, cur, Option.some.inj hc⟩
   ·exact Or.inl rfl
 case done =>
  rintro D ys W hD rfl ⟨q, n, c, hI⟩ hK
  have HI := Lib.hid hI
  have b0 := hI.box.cell
  have hn24 : n ≤ 24 := by rw [hI.len]; exact those_len _ _
  have HLS := Lib.hid (risen_list ss i)
  have hown := hI.own
  rw [strV_enc] at hown
  have HZ : Hid (bytesL (named ss (those (inDir ss i) 24)) = (named ss (those (inDir ss i) 24)).map fun x => x.data.toList) := Lib.hid rfl
  rw [← HZ.out] at hown
  generalize bytesL (named ss (those (inDir ss i) 24)) = zs at *
  have hzl : zs.length = n := by
   have := hown.1
   simpa using this
  have HS := Lib.hid (csort q n c 0 zs W (by omega) hown)
  have HNN := Lib.hid (own_none hown)
  have hlow : ∀ k, (Value.slice q n c).ownBlock = some k → W0.heap.size ≤ k := hI.low
  have hnd : ∀ (V : World) (cs : List Value), V.heap[D]? = some (.deferred (some [])) → rows.Own V 0 9 1 (.slice q n c) n cs → ¬ (Value.slice q n c).ownBlock = some D := fun V cs hV ho hk => by
   obtain ⟨cur, hc⟩ := own_at ho hk
   rw [hV] at hc; cases hc
  have HND := Lib.hid hnd
  have HOWN := Lib.hid hown
  have HLOW := Lib.hid hlow
  clear hI hown HZ hnd hlow
  gi_wp2_with (first | (refine ⟨trivial, ?_⟩; gi_at_call 179; refine (callsIn_wide.2 HS.out).mono ?_; rintro e w5 ⟨rfl, ho5, ht5⟩; have HO5 := Lib.hid ho5; have HT5 := Lib.hid ht5; have hb5 := boxed_kept HI.out.box ht5 (fun e => by have := HLOW.out _ e; have := HSZ.out; omega); have c5 := hb5.cell; clear ho5 ht5 hb5) | (refine ⟨trivial, ?_⟩; gi_at_call 180; refine (callsIn_wide.2 (ccompact q n c 0 _ w5 (by omega) HO5.out)).mono ?_; rintro e w6 ⟨rfl, ho6, ht6⟩; have HO6 := Lib.hid ho6; have HT6 := Lib.hid ht6; clear ho6 ht6))
  have hK5 : w5.heap[D]? = some (.deferred (some [])) := (HT5.out.block D (Array.getElem?_eq_some_iff.1 hK).1 (HND.out W _ hK HOWN.out)).trans hK
  have hK6 : w6.heap[D]? = some (.deferred (some [])) := (HT6.out.block D (Array.getElem?_eq_some_iff.1 hK5).1 (HND.out w5 _ hK5 HO5.out)).trans hK5
  refine ⟨by simp, .inl ⟨_, _, rfl, run_takeDeferred hK6, ?_⟩⟩
  obtain ⟨us, ho⟩ := HO6.out
  have ho2 := own_calm ho (rng.Calm.putObj (B := 0) (.deferred none) (Nat.zero_le _) hK6 rfl)
  have hlen : (risen zs).length ≤ n := by rw [← hzl]; exact risen_len zs
  have hrd := own_head ho2 hlen HNN.out
  rw [List.map_append, List.take_left' (by rw [List.length_map]; rfl), show Lib.compact (zs.mergeSort fun x y => decide (x ≤ y)) = risen zs from rfl, ← strs_enc] at hrd
  have hb := HI.out.below.trans ((HT5.out.below HI.out.below.size fun k hk => by have := HLOW.out k hk; omega).trans (HT6.out.below (Nat.le_trans HI.out.below.size HT5.out.size) fun k hk => by have := HLOW.out k hk; omega))
  exact ⟨_, results_tmp rfl _ _ _, _, q, _, c, HLS.out, rfl, by rw [strsL, List.length_map], hrd, hb.grown (grownBy_putObj' _ D (.deferred none)) hb.size (fun k e => by cases e; omega)⟩
 case stop =>
  rintro D c pre W hD hp h hK
  exact h.elim
end lk
namespace fs
set_option maxRecDepth 100000
open Go.ChangeShapes Go.WideShapes Go.ChangeAt Go.RowKit
open rows
open sec
open dsk (wf64 cell_row grow St CA)
open ly
open pa
open lk
open al
def FR (w : World) (g : Nat) (d : Value) : Prop := w.heap[g]? = some (.cells #[.pointer (some ⟨g, 0, none⟩), d] 77 (0, 0))
theorem FR.lt {w : World} {g : Nat} {d : Value} (h : FR w g d) : g < w.heap.size := (Array.getElem?_eq_some_iff.1 h).1
theorem FR.later {w w' : World} {g : Nat} {d : Value} (h : FR w g d) (hb : Below w.heap.size w w') : FR w' g d := (hb.block g h.lt).trans h
theorem FR.touch {S : Nat → Prop} {w w' : World} {g : Nat} {d : Value} (h : FR w g d) (ht : dsk.Touch S w w') (hg : ¬ S g) : FR w' g d := (ht.block g h.lt hg).trans h
theorem FR.self {w : World} {g : Nat} {d : Value} (h : FR w g d) : w.cell? ⟨g, 0, none⟩ = some (.pointer (some ⟨g, 0, none⟩)) := cell_row h 0 _ rfl
theorem FR.disk {w : World} {g : Nat} {d : Value} (h : FR w g d) : w.cell? ⟨g, 1, none⟩ = some d := cell_row h 1 _ rfl
structure FK (w : World) (g : Nat) (d : Value) (ss : List (List Int)) : Prop where
 row : FR w g d
 dk : Dk w d ss
theorem FK.later {w w' : World} {g : Nat} {d : Value} {ss : List (List Int)} (h : FK w g d ss) (hb : Below w.heap.size w w') : FK w' g d ss := ⟨h.row.later hb, h.dk.later hb⟩
structure FsAt (w : World) (G : Nat → Prop) (g : Nat) (d : Value) (st : St) : Prop where
 row : FR w g d
 code : CA w G d st
 apart : ¬ G g
theorem FsAt.later {w w' : World} {G : Nat → Prop} {g : Nat} {d : Value} {st : St} (h : FsAt w G g d st) (hb : Below w.heap.size w w') : FsAt w' G g d st := ⟨h.row.later hb, Go.Proofs.YtpahnfnfoldbhaaGreatDoor.lk.CA.later' h.code hb, h.apart⟩
theorem FsAt.known {w : World} {G : Nat → Prop} {g : Nat} {d : Value} {st : St} {k : Nat} (h : FsAt w G g d st) (hg : st.good k) (hk : k ≤ 900) : FK w g d (nowL st) :=
 ⟨h.row, Or.inr ⟨G, st, h.code, hg.fine hk, (now_seen st fun x hx => (hg.ws x hx).2).symm⟩⟩
def PDone (G : Nat → Prop) (g : Nat) (d : Value) (w : World) (r : Int × St) (e : Ending) (w' : World) : Prop := e = .returned (.int .i64 r.1) ∧ FsAt w' (grow G w w') g d r.2 ∧ dsk.Touch G w w'
theorem fsAt_wide {w : World} {G G' : Nat → Prop} {g : Nat} {d : Value} {st : St} (h : FsAt w G g d st) (hG : ∀ b, G b → G' b) (hg : ¬ G' g) : FsAt w G' g d st := by
 obtain ⟨h1, ⟨z, gg, vs, vw, vn, vl, vf, hd, h2⟩, h3⟩ := h
 exact ⟨h1, ⟨z, gg, vs, vw, vn, vl, vf, hd, h2.wider hG fun _ _ => rfl⟩, hg⟩
theorem pdone_from {G : Nat → Prop} {g : Nat} {d : Value} {w w1 w' : World} {r : Int × St} {e : Ending} (hg : g < w.heap.size) (hG : ¬ G g) (hb : Below w.heap.size w w1) (h : PDone G g d w1 r e w') : PDone G g d w r e w' := by
 obtain ⟨h1, h2, h3⟩ := h
 refine ⟨h1, fsAt_wide h2 (fun b hb' => ?_) (fun hh => ?_), (dsk.Touch.of_below hb).trans h3⟩
 ·rcases hb' with h | h
  ·exact Or.inl h
  ·exact Or.inr ⟨Nat.le_trans hb.size h.1, h.2⟩
 ·rcases hh with h | h
  ·exact hG h
  ·omega
theorem pdone_same {G : Nat → Prop} {g : Nat} {d : Value} {w w1 : World} {st : St} {x : Int} (h : FsAt w G g d st) (hb : Below w.heap.size w w1) : PDone G g d w (x, st) (.returned (.int .i64 x)) w1 := by
 have hg := h.row.lt
 exact ⟨rfl, fsAt_wide (h.later hb) (fun b hb => Or.inl hb) (fun hh => by
  rcases hh with h1 | h1
  ·exact h.apart h1
  ·omega), dsk.Touch.of_below hb⟩
theorem und_pfs : Tryz.prog.underlying 33 = some (.pointer 77) := by kernel_rfl
theorem info_fs : (Tryz.prog.info? 77).map (·.size) = some 2 := by kernel_rfl
theorem eql_sameF (g : Nat) (w : World) : (binOp .eql 33 (.pointer (some ⟨g, 0, none⟩)) (.pointer (some ⟨g, 0, none⟩))).run Tryz.prog w = .ok (.bool true) w := by
 cases hq : Tryz.prog.info? 77 with
 | none => have := info_fs; simp [hq] at this
 | some q => exact run_eql_ptr_same w _ und_pfs hq
theorem eql_nilF (g : Nat) (w : World) : (binOp .eql 33 (.pointer none) (.pointer (some ⟨g, 0, none⟩))).run Tryz.prog w = .ok (.bool false) w := by
 have h : ∀ d : Nat, (Op.equalIn (d + 1) 33 (.pointer none) (.pointer (some ⟨g, 0, none⟩))).run Tryz.prog w = .ok false w := fun d => by
  simp [Op.equalIn, run_underlying und_pfs]
 simp only [binOp]
 simp [Op.equal, Op.maxDepth, h 9999]
theorem fmade (g : Nat) (w : World) (h : w.cell? ⟨g, 0, none⟩ = some (.pointer (some ⟨g, 0, none⟩))) :
  Calls Tryz.prog 89 #[.pointer (some ⟨g, 0, none⟩)] w fun e w' => e = .returned (.bool true) ∧ w = w' := by
 have q1 := eql_sameF g
 have q2 := eql_nilF g
 go_enter Tryz.func89, Tryz.ntmps89
 go_wp2
 go_ret
 exact ⟨rfl, rfl⟩
theorem fdisk (g : Nat) (d : Value) (w : World) (h : FR w g d) :
  Calls Tryz.prog 31 #[.pointer (some ⟨g, 0, none⟩)] w fun e w' => e = .returned d ∧ w' = w := by
 have HM := Lib.hid (fmade g w h.self)
 have c1 := h.disk
 clear h
 go_enter Tryz.func31, Tryz.ntmps31
 go_wp2_with (go_at_call 89; refine HM.out.mono ?_; rintro e w0 ⟨rfl, rfl⟩)
 go_ret
 exact ⟨rfl, rfl⟩
theorem fsector (b : Int) (hb : -1000 ≤ b ∧ b ≤ 1000) (w : World) : Calls Tryz.prog 150 #[.int .i64 b] w fun e w' => e = .returned (.int .i64 (40 + b)) ∧ w = w' := by
 have h1 : IntKind.i64.wrap (41 + b) = 41 + b := IntWalk.i64_in _ (by omega)
 have h2 : IntKind.i64.wrap (41 + b - 1) = 40 + b := by rw [show 41 + b - 1 = 40 + b by omega]; exact IntWalk.i64_in _ (by omega)
 go_enter Tryz.func150, Tryz.ntmps150
 go_wp2
 go_ret
 exact ⟨by simp, rfl⟩
theorem frequired (m : Nat) (hm : m ≤ 1000) (w : World) : Calls Tryz.prog 91 #[.int .i64 (m : Int)] w fun e w' => e = .returned (.int .i64 (need m : Int)) ∧ w = w' := by
 have HN : Hid (((m : Int) + 32 - 1) / 32 = (need m : Int)) := Lib.hid (by unfold need; omega)
 go_enter Tryz.func91, Tryz.ntmps91
 go_wp2
 go_ret
 exact ⟨by simp [HN.out], rfl⟩
theorem fdepth (s : ByteArray) (w : World) (hm : Mx w) (hsz : s.size ≤ 100000) : Calls Tryz.prog 97 #[.string s] w fun e w' => e = .returned (.int .i64 ((nms (bys s)).length : Int)) ∧ Below w.heap.size w w' := by
 have HS := Lib.hid (split_is s w hm hsz)
 generalize errS (bys s) = er at *
 generalize nms (bys s) = l at *
 clear hm hsz
 go_enter Tryz.func97, Tryz.ntmps97
 go_wp2_with (go_at_call 50; refine HS.out.mono ?_; rintro e w1 ⟨p, n, c, rfl, hn, hr, hb⟩; have B1 := Lib.hid hb; have HN := Lib.hid hn; clear hb hr hn)
 go_ret
 exact ⟨by rw [← HN.out]; rfl, B1.out⟩
theorem fisfolder (w : World) (g : Nat) (d : Value) (ss : List (List Int)) (i : Int) (h : FK w g d ss) (hi : wf64 i) : Calls Tryz.prog 96 #[.pointer (some ⟨g, 0, none⟩), .int .i64 i] w fun e w' => e = .returned (.bool (decide ((inoAt ss i).kind = 2))) ∧ Below w.heap.size w w' := by
 have HI := Lib.hid (cino_any w d ss i h.dk hi)
 have c1 := h.row.disk
 have hf1 := fieldI0 (inoAt ss i) (inoAt_four h.dk.secs.1 i)
 obtain ⟨kd, hkd⟩ : ∃ kd, (inoAt ss i).kind = kd := ⟨_, rfl⟩
 rw [hkd] at hf1 ⊢
 generalize aggI (inoAt ss i) = yv at *
 clear hkd h hi
 go_enter Tryz.func96, Tryz.ntmps96
 go_wp2_with (go_at_call 115; refine HI.out.mono ?_; rintro e w1 ⟨rfl, hb⟩; have B1 := Lib.hid hb; clear hb)
 go_ret
 exact ⟨by congr 2, B1.out⟩
theorem fexists (w : World) (g : Nat) (d : Value) (ss : List (List Int)) (s : ByteArray) (h : FK w g d ss) (hm : Mx w) (hsz : s.size ≤ 100000) : Calls Tryz.prog 57 #[.pointer (some ⟨g, 0, none⟩), .string s] w fun e w' => e = .returned (.bool (decide ((lookV ss (bys s)).2 = 0))) ∧ Below w.heap.size w w' := by
 have HL := Lib.hid (lookup_any w d ss s hm h.dk hsz)
 have HM := Lib.hid (fmade g w h.row.self)
 have c1 := h.row.disk
 generalize lookV ss (bys s) = lv at *
 obtain ⟨z, er⟩ := lv
 unfold lookT at HL
 simp only at HL
 clear h hm hsz
 go_enter Tryz.func57, Tryz.ntmps57
 go_wp2_with (first | (go_at_call 89; refine HM.out.mono ?_; rintro e w0 ⟨rfl, rfl⟩) | (go_at_call 49; refine HL.out.mono ?_; rintro e w1 ⟨rfl, hb⟩; have B1 := Lib.hid hb; clear hb))
 go_ret
 exact ⟨by congr 2, B1.out⟩
end fs
namespace fs
set_option maxRecDepth 100000
open Go.ChangeShapes Go.WideShapes Go.ChangeAt Go.RowKit
open rows
open sec
open dsk (cell_row frozen_row setCell_heap size_alloc Wr Wr.ok Wr.c Wr.c_len w0 built_of fill_part wr_ones)
open ly
open pa
open lk
open al
def stC (x : Wr) (b : Bool) : List Value := x.c ++ [.bool b]
abbrev aggT (x : Wr) (b : Bool) : Value := .agg (stC x b).toArray
def AtSt (w : World) (g : Nat) (x : Wr) (b : Bool) : Prop := w.heap[g]? = some (.cells (stC x b).toArray 188 (0, 0))
theorem stC_len {x : Wr} {b : Bool} (h : Sec x.s) : (stC x b).length = 37 := by simp [stC, Wr.c_len h]
theorem st_ones (x : Wr) (b : Bool) : ∀ u ∈ stC x b, u.oneCell' = true := fun u hu => by
 rcases List.mem_append.1 hu with hu | hu
 ·exact wr_ones x u hu
 ·rw [List.mem_singleton.1 hu]; rfl
theorem AtSt.lt {w : World} {g : Nat} {x : Wr} {b : Bool} (h : AtSt w g x b) : g < w.heap.size := (Array.getElem?_eq_some_iff.1 h).1
theorem AtSt.later {w w' : World} {g : Nat} {x : Wr} {b : Bool} (h : AtSt w g x b) (hb : Below w.heap.size w w') : AtSt w' g x b := (hb.block g h.lt).trans h
theorem AtSt.range {w : World} {g : Nat} {x : Wr} {b : Bool} (h : AtSt w g x b) : w.rangeAt g 0 (stC x b) := by
 have := World.rangeAt_of_block h 0 (stC x b).toArray.size
 simpa using this
theorem und_st : Tryz.prog.underlying 188 = some (.struct (Tryz.prog.fieldsOf 188)) := by kernel_rfl
theorem zero_st : (Tryz.prog.info? 188).map (·.zero) = some (some (.agg (stC w0 false).toArray)) := by kernel_rfl
theorem places_st : (Tryz.prog.fieldsOf 188).toList.mapM (fun f => (Tryz.prog.info? f.type).map fun i => (f.offset, i.size)) = some [(0, 36), (36, 1)] := by kernel_rfl
theorem info_st : (Tryz.prog.info? 188).map (·.size) = some 37 := by kernel_rfl
theorem built_st (x : Wr) (h : Sec x.s) : Tryz.prog.built 188 [(0, .agg x.c.toArray)] = some (stC x false).toArray := by
 rw [built_of _ _ _ _ und_st zero_st places_st]
 rw [fill_part _ _ 0 0 36 _ x.c _ rfl rfl (Wr.c_len h) (by rw [stC_len sec_zero]; omega)]
 have e : (stC w0 false).take 0 ++ x.c ++ (stC w0 false).drop (0 + 36) = stC x false := by
  rw [List.take_zero, List.nil_append, Nat.zero_add]
  show x.c ++ (w0.c ++ [Value.bool false]).drop 36 = stC x false
  rw [List.drop_left' (Wr.c_len sec_zero)]
  rfl
 rw [e]
 rfl
theorem store_st {ops : Array Oper} {rest : List Oper} {o : Oper} {a : Act} {w : World} {Q : Exit → Act → World → Prop} (hgd : o.guard = none) (x y : Operand) (ho : o.op = .store 188 x y) (hd : o.dst = none)
  (g : Nat) (z old : Wr) (b c : Bool) (hx : a.eval x = .pointer (some ⟨g, 0, none⟩)) (hy : a.eval y = aggT z b) (hs : Sec z.s) (hold : Sec old.s) (hg : AtSt w g old c)
  (h : ∀ w', AtSt w' g z b → Below g w w' → wpList Tryz.prog ops Q rest a w') : wpList Tryz.prog ops Q (o :: rest) a w := by
 refine wpList_store_row hgd 188 x y ho g (stC z b).toArray hx hy 188 _ hg (by rw [info_st]; simp [stC_len hs]) (by simp [stC_len hs, stC_len hold]) (by simp only [List.all_toArray]; exact List.all_eq_true.2 (st_ones z b)) ?_
 rw [hd]
 exact h _ (setRow_heap w g _ _ _ _ hg) ((Below.refl g w).trans ⟨rfl, rfl, rfl, by simp [World.setRow], fun k hk => setRow_other w g k _ (by omega)⟩)
theorem step_store_st {w : World} {ops : Array Oper} {o : Oper} {a : Act} {K : Act → World → Prop} {Q : Exit → Act → World → Prop} {F : Prop} (hw : Region.wanted o (yielded ops a.tmps) = true) (x y : Operand) (ho : o.op = .store 188 x y)
  (g : Nat) (hx : a.eval x = .pointer (some ⟨g, 0, none⟩)) (z old : Wr) (b c : Bool) (hy : a.eval y = aggT z b) (hs : Sec z.s) (hold : Sec old.s) (hg : AtSt w g old c)
  (h : ∀ w', AtSt w' g z b → Below g w w' → dsk.Touch (fun k => k = g) w w' → K (a.put o.dst undef) w') : if Region.wanted o (yielded ops a.tmps) = true then Oper.wp Tryz.prog o a w K Q else F := by
 rw [if_pos hw]
 refine wp_store_row 188 x y ho g (stC z b).toArray hx hy 188 _ hg (by rw [info_st]; simp [stC_len hs]) (by simp [stC_len hs, stC_len hold]) (by simp only [List.all_toArray]; exact List.all_eq_true.2 (st_ones z b)) ?_
 exact h _ (setRow_heap w g _ _ _ _ hg) ((Below.refl g w).trans ⟨rfl, rfl, rfl, by simp [World.setRow], fun k hk => setRow_other w g k _ (by omega)⟩) (dsk.touch_setRow w g _)
theorem load_st {ops : Array Oper} {rest : List Oper} {o : Oper} {a : Act} {w : World} {Q : Exit → Act → World → Prop} (hgd : o.guard = none) (p : Operand) (ho : o.op = .load 188 p)
  (g : Nat) (hp : a.eval p = .pointer (some ⟨g, 0, none⟩)) (x : Wr) (b : Bool) (hs : Sec x.s) (hg : AtSt w g x b)
  (h : wpList Tryz.prog ops Q rest (a.put o.dst (aggT x b)) w) : wpList Tryz.prog ops Q (o :: rest) a w :=
 wpList_load_row hgd 188 p ho g hp 188 _ _ _ hg und_st rfl (by rw [info_st]; simp [stC_len hs]) h
theorem ld_st {ops : Array Oper} {S : World → Prop} {op : Oper} {a : Act} (hw : Region.wanted op (yielded ops a.tmps) = true) (x : Operand) (ho : op.op = .load 188 x)
  (g o : Nat) (hx : a.eval x = .pointer (some ⟨g, o, none⟩)) (y : Wr) (b : Bool) (hs : Sec y.s) (hS : ∀ w, S w → w.rangeAt g o (stC y b)) : YieldsIf Tryz.prog ops S op (aggT y b) a :=
 yieldsIf_load_mid hw _ x ho g o hx (stC y b) _ hS und_st rfl (by rw [info_st, stC_len hs])
theorem ret_st1 {fn : Func} {p : Tmp} {R : Ending → World → Prop} {a : Act} {w : World} (h : fn.results = #[.cell p 188]) (g : Nat) (x : Wr) (b : Bool) (hp : a.tmps.getD p undef = .pointer (some ⟨g, 0, none⟩)) (hx : Sec x.s) (hg : AtSt w g x b)
  (hd : a.defers = []) (hR : R (.returned (aggT x b)) w) : bodyPost Tryz.prog fn R .ret a w :=
 bodyPost_ret (results_cell_row h a.tmps w g _ _ _ _ hp hg und_st rfl (by rw [info_st]; simp [stC_len hx])) hd hR
theorem atSt_lit (w : World) : AtSt (w.alloc (.cells #[Value.int IntKind.i64 0, Value.int IntKind.u8 0, Value.int IntKind.u8 0, Value.int IntKind.u8 0, Value.int IntKind.u8 0, Value.int IntKind.u8 0, Value.int IntKind.u8 0, Value.int IntKind.u8 0, Value.int IntKind.u8 0, Value.int IntKind.u8 0, Value.int IntKind.u8 0, Value.int IntKind.u8 0, Value.int IntKind.u8 0, Value.int IntKind.u8 0, Value.int IntKind.u8 0, Value.int IntKind.u8 0, Value.int IntKind.u8 0, Value.int IntKind.u8 0, Value.int IntKind.u8 0, Value.int IntKind.u8 0, Value.int IntKind.u8 0, Value.int IntKind.u8 0, Value.int IntKind.u8 0, Value.int IntKind.u8 0, Value.int IntKind.u8 0, Value.int IntKind.u8 0, Value.int IntKind.u8 0, Value.int IntKind.u8 0, Value.int IntKind.u8 0, Value.int IntKind.u8 0, Value.int IntKind.u8 0, Value.int IntKind.u8 0, Value.int IntKind.u8 0, Value.int IntKind.i64 0, Value.int IntKind.i64 0, Value.int IntKind.i64 0, Value.bool false] 188)) w.heap.size w0 false := heap_alloc_new _ _
theorem AtSt.mark {w : World} {g : Nat} {x : Wr} {b : Bool} (hs : Sec x.s) (h : AtSt w g x b) (c : Bool) : AtSt (w.setCell ⟨g, 36, none⟩ (.bool c)) g x c := by
 have h2 := setCell_heap (i := 36) h (.bool c)
 have e : (stC x b).toArray.setIfInBounds 36 (.bool c) = (stC x c).toArray := by
  rw [List.setIfInBounds_toArray]
  congr 1
  show (x.c ++ [Value.bool b]).set 36 (.bool c) = x.c ++ [Value.bool c]
  rw [List.set_append_right _ _ (by rw [Wr.c_len hs]; omega), Wr.c_len hs]
  rfl
 rw [e] at h2
 exact h2
theorem AtSt.flag {w : World} {g : Nat} {x : Wr} {b : Bool} (hs : Sec x.s) (h : AtSt w g x b) : w.cell? ⟨g, 36, none⟩ = some (.bool b) := cell_row h 36 _ (by
 rw [List.getElem?_toArray]
 show (x.c ++ [Value.bool b])[36]? = _
 rw [List.getElem?_append_right (by rw [Wr.c_len hs]; omega), Wr.c_len hs]
 rfl)
set_option maxRecDepth 100000 in
set_option maxHeartbeats 1600000 in
theorem fstepTo (p : Int) (s : List Int) (hs : Sec s) (k i : Int) (w : World) : Calls Tryz.prog 183 #[.int .i64 p, agg s, .int .i64 k, .int .i64 i] w fun e w' => e = .returned (aggT ⟨p, s, k, i, 0⟩ false) ∧ Below w.heap.size w w' := by
 have HS := Lib.hid hs
 have a0 : At ((w.alloc (.cells (u8s s).toArray 84)).alloc (.cells #[Value.int IntKind.i64 0, Value.int IntKind.u8 0, Value.int IntKind.u8 0, Value.int IntKind.u8 0, Value.int IntKind.u8 0, Value.int IntKind.u8 0, Value.int IntKind.u8 0, Value.int IntKind.u8 0, Value.int IntKind.u8 0, Value.int IntKind.u8 0, Value.int IntKind.u8 0, Value.int IntKind.u8 0, Value.int IntKind.u8 0, Value.int IntKind.u8 0, Value.int IntKind.u8 0, Value.int IntKind.u8 0, Value.int IntKind.u8 0, Value.int IntKind.u8 0, Value.int IntKind.u8 0, Value.int IntKind.u8 0, Value.int IntKind.u8 0, Value.int IntKind.u8 0, Value.int IntKind.u8 0, Value.int IntKind.u8 0, Value.int IntKind.u8 0, Value.int IntKind.u8 0, Value.int IntKind.u8 0, Value.int IntKind.u8 0, Value.int IntKind.u8 0, Value.int IntKind.u8 0, Value.int IntKind.u8 0, Value.int IntKind.u8 0, Value.int IntKind.u8 0, Value.int IntKind.i64 0, Value.int IntKind.i64 0, Value.int IntKind.i64 0, Value.bool false] 188)) w.heap.size s := (at_new w s).later (below_alloc (Below.refl _ _) _)
 have a2 := atSt_lit (w.alloc (.cells (u8s s).toArray 84))
 rw [World.size_alloc] at a2
 have hbw := below_alloc (below_alloc (Below.refl w.heap.size w) (.cells (u8s s).toArray 84)) (.cells #[Value.int IntKind.i64 0, Value.int IntKind.u8 0, Value.int IntKind.u8 0, Value.int IntKind.u8 0, Value.int IntKind.u8 0, Value.int IntKind.u8 0, Value.int IntKind.u8 0, Value.int IntKind.u8 0, Value.int IntKind.u8 0, Value.int IntKind.u8 0, Value.int IntKind.u8 0, Value.int IntKind.u8 0, Value.int IntKind.u8 0, Value.int IntKind.u8 0, Value.int IntKind.u8 0, Value.int IntKind.u8 0, Value.int IntKind.u8 0, Value.int IntKind.u8 0, Value.int IntKind.u8 0, Value.int IntKind.u8 0, Value.int IntKind.u8 0, Value.int IntKind.u8 0, Value.int IntKind.u8 0, Value.int IntKind.u8 0, Value.int IntKind.u8 0, Value.int IntKind.u8 0, Value.int IntKind.u8 0, Value.int IntKind.u8 0, Value.int IntKind.u8 0, Value.int IntKind.u8 0, Value.int IntKind.u8 0, Value.int IntKind.u8 0, Value.int IntKind.u8 0, Value.int IntKind.i64 0, Value.int IntKind.i64 0, Value.int IntKind.i64 0, Value.bool false] 188)
 obtain ⟨W, hW⟩ : ∃ W, (w.alloc (.cells (u8s s).toArray 84)).alloc (.cells #[Value.int IntKind.i64 0, Value.int IntKind.u8 0, Value.int IntKind.u8 0, Value.int IntKind.u8 0, Value.int IntKind.u8 0, Value.int IntKind.u8 0, Value.int IntKind.u8 0, Value.int IntKind.u8 0, Value.int IntKind.u8 0, Value.int IntKind.u8 0, Value.int IntKind.u8 0, Value.int IntKind.u8 0, Value.int IntKind.u8 0, Value.int IntKind.u8 0, Value.int IntKind.u8 0, Value.int IntKind.u8 0, Value.int IntKind.u8 0, Value.int IntKind.u8 0, Value.int IntKind.u8 0, Value.int IntKind.u8 0, Value.int IntKind.u8 0, Value.int IntKind.u8 0, Value.int IntKind.u8 0, Value.int IntKind.u8 0, Value.int IntKind.u8 0, Value.int IntKind.u8 0, Value.int IntKind.u8 0, Value.int IntKind.u8 0, Value.int IntKind.u8 0, Value.int IntKind.u8 0, Value.int IntKind.u8 0, Value.int IntKind.u8 0, Value.int IntKind.u8 0, Value.int IntKind.i64 0, Value.int IntKind.i64 0, Value.int IntKind.i64 0, Value.bool false] 188) = W := ⟨_, rfl⟩
 rw [hW] at hbw a0 a2
 have HB0 := Lib.hid hbw
 have A0 := Lib.hid a0
 have A2 := Lib.hid a2
 have HBW := built_wr3 p k i s hs
 have HXs : Sec (⟨p, s, k, i, 0⟩ : Wr).s := hs
 generalize (⟨p, s, k, i, 0⟩ : Wr) = X at *
 have HBT := Lib.hid (built_st X HXs)
 have HX := Lib.hid HXs
 have HBW := Lib.hid HBW
 clear hs hbw a0 a2 HXs
 go_enter Tryz.func183, Tryz.ntmps183
 go_upto_region 1 with fail
 try rw [hW]
 clear hW
 go_wp2_with (first | (refine load_at rfl (.tmp 5) rfl w.heap.size rfl s HS.out.1 A0.out ?_) | (refine wpList_buildTo rfl 92 #[(0, .tmp 9), (1, .tmp 10), (2, .tmp 13)] rfl (some 14) rfl X.c.toArray ?hb ?hk; (case hb => (simp only [List.map_toArray, List.map_cons, List.map_nil]; exact HBW.out))) | (refine wpList_buildTo rfl 188 #[(0, .tmp 14)] rfl (some 15) rfl (stC X false).toArray ?hb2 ?hk2; (case hb2 => (simp only [List.map_toArray, List.map_cons, List.map_nil]; exact HBT.out))) | (refine store_st rfl (.tmp 8) (.tmp 15) rfl rfl (w.heap.size + 1) X w0 false false rfl rfl HX.out sec_zero A2.out ?_; intro w5 hA hB; have X5 := Lib.hid hA; have B5 := Lib.hid (HB0.out.trans (hB.mono (show w.heap.size ≤ w.heap.size + 1 by omega))); clear hA hB))
 exact ret_st1 rfl (w.heap.size + 1) X false rfl HX.out X5.out rfl ⟨rfl, B5.out⟩
set_option maxRecDepth 100000 in
set_option maxHeartbeats 1600000 in
theorem finodeStep (n : Int) (hn : 0 ≤ n ∧ n ≤ 200) (x : Ino) (hx : x.ok) (w : World) : Calls Tryz.prog 147 #[.int .i64 n, aggI x] w fun e w' => e = .returned (aggT (wIno n x) false) ∧ Below w.heap.size w w' := by
 have HI := Lib.hid fun w => inode_any x hx w
 have HS := Lib.hid (inoV_sec hx.four)
 have H4 := Lib.hid hx.four
 have HT := Lib.hid fun w' => fstepTo (1 + n) (inoV x) (inoV_sec hx.four) 2 n w'
 change Hid (∀ w', Calls _ _ _ w' fun e w'' => e = .returned (aggT (wIno n x) false) ∧ Below w'.heap.size w' w'') at HT
 have HX := Lib.hid (show Sec (wIno n x).s from inoV_sec hx.four)
 generalize wIno n x = X at *
 generalize inoV x = s at *
 generalize rightI x = rb at *
 have a0 : AtI ((w.alloc (.cells x.c.toArray 122)).alloc (.cells #[Value.int IntKind.i64 0, Value.int IntKind.u8 0, Value.int IntKind.u8 0, Value.int IntKind.u8 0, Value.int IntKind.u8 0, Value.int IntKind.u8 0, Value.int IntKind.u8 0, Value.int IntKind.u8 0, Value.int IntKind.u8 0, Value.int IntKind.u8 0, Value.int IntKind.u8 0, Value.int IntKind.u8 0, Value.int IntKind.u8 0, Value.int IntKind.u8 0, Value.int IntKind.u8 0, Value.int IntKind.u8 0, Value.int IntKind.u8 0, Value.int IntKind.u8 0, Value.int IntKind.u8 0, Value.int IntKind.u8 0, Value.int IntKind.u8 0, Value.int IntKind.u8 0, Value.int IntKind.u8 0, Value.int IntKind.u8 0, Value.int IntKind.u8 0, Value.int IntKind.u8 0, Value.int IntKind.u8 0, Value.int IntKind.u8 0, Value.int IntKind.u8 0, Value.int IntKind.u8 0, Value.int IntKind.u8 0, Value.int IntKind.u8 0, Value.int IntKind.u8 0, Value.int IntKind.i64 0, Value.int IntKind.i64 0, Value.int IntKind.i64 0, Value.bool false] 188)) w.heap.size x := (atI_new w x).later (below_alloc (Below.refl _ _) _)
 have a2 := atSt_lit (w.alloc (.cells x.c.toArray 122))
 rw [World.size_alloc] at a2
 have hbw := below_alloc (below_alloc (Below.refl w.heap.size w) (.cells x.c.toArray 122)) (.cells #[Value.int IntKind.i64 0, Value.int IntKind.u8 0, Value.int IntKind.u8 0, Value.int IntKind.u8 0, Value.int IntKind.u8 0, Value.int IntKind.u8 0, Value.int IntKind.u8 0, Value.int IntKind.u8 0, Value.int IntKind.u8 0, Value.int IntKind.u8 0, Value.int IntKind.u8 0, Value.int IntKind.u8 0, Value.int IntKind.u8 0, Value.int IntKind.u8 0, Value.int IntKind.u8 0, Value.int IntKind.u8 0, Value.int IntKind.u8 0, Value.int IntKind.u8 0, Value.int IntKind.u8 0, Value.int IntKind.u8 0, Value.int IntKind.u8 0, Value.int IntKind.u8 0, Value.int IntKind.u8 0, Value.int IntKind.u8 0, Value.int IntKind.u8 0, Value.int IntKind.u8 0, Value.int IntKind.u8 0, Value.int IntKind.u8 0, Value.int IntKind.u8 0, Value.int IntKind.u8 0, Value.int IntKind.u8 0, Value.int IntKind.u8 0, Value.int IntKind.u8 0, Value.int IntKind.i64 0, Value.int IntKind.i64 0, Value.int IntKind.i64 0, Value.bool false] 188)
 obtain ⟨W, hW⟩ : ∃ W, (w.alloc (.cells x.c.toArray 122)).alloc (.cells #[Value.int IntKind.i64 0, Value.int IntKind.u8 0, Value.int IntKind.u8 0, Value.int IntKind.u8 0, Value.int IntKind.u8 0, Value.int IntKind.u8 0, Value.int IntKind.u8 0, Value.int IntKind.u8 0, Value.int IntKind.u8 0, Value.int IntKind.u8 0, Value.int IntKind.u8 0, Value.int IntKind.u8 0, Value.int IntKind.u8 0, Value.int IntKind.u8 0, Value.int IntKind.u8 0, Value.int IntKind.u8 0, Value.int IntKind.u8 0, Value.int IntKind.u8 0, Value.int IntKind.u8 0, Value.int IntKind.u8 0, Value.int IntKind.u8 0, Value.int IntKind.u8 0, Value.int IntKind.u8 0, Value.int IntKind.u8 0, Value.int IntKind.u8 0, Value.int IntKind.u8 0, Value.int IntKind.u8 0, Value.int IntKind.u8 0, Value.int IntKind.u8 0, Value.int IntKind.u8 0, Value.int IntKind.u8 0, Value.int IntKind.u8 0, Value.int IntKind.u8 0, Value.int IntKind.i64 0, Value.int IntKind.i64 0, Value.int IntKind.i64 0, Value.bool false] 188) = W := ⟨_, rfl⟩
 rw [hW] at hbw a0 a2
 have HB0 := Lib.hid hbw
 have A0 := Lib.hid a0
 have A2 := Lib.hid a2
 clear hx hbw a0 a2
 go_enter Tryz.func147, Tryz.ntmps147
 go_upto_region 1 with fail
 try rw [hW]
 clear hW
 go_wp2_with (first | (refine load_ino rfl (.tmp 3) rfl w.heap.size rfl x H4.out A0.out ?_) | (go_at_call 190; refine (HI.out _).mono ?_; rintro e w1 ⟨rfl, hb⟩; have B1 := Lib.hid (below_trans HB0.out hb); have X1 := Lib.hid (A2.out.later hb); clear hb) | (refine store_at rfl (.tmp 5) (.tmp 10) rfl rfl w1.heap.size s zero32 rfl rfl HS.out.1 (by decide) (at_lit w1) ?_; intro w2 hA hB _; have hb := (below_alloc (Below.refl _ w1) _).trans hB; have B2 := Lib.hid (below_trans B1.out hb); have X2 := Lib.hid (X1.out.later hb); have S2 := Lib.hid hA; clear hA hB hb) | (refine load_at rfl (.tmp 5) rfl w1.heap.size rfl s HS.out.1 S2.out ?_) | (go_at_call 183; refine (HT.out _).mono ?_; rintro e w3 ⟨rfl, hb⟩; have B3 := Lib.hid (below_trans B2.out hb); have X3 := Lib.hid (X2.out.later hb); clear hb) | (refine store_st rfl (.tmp 4) (.tmp 16) rfl rfl (w.heap.size + 1) X w0 false false rfl rfl HX.out sec_zero X3.out ?_; intro w5 hA hB; have X5 := Lib.hid hA; have B5 := Lib.hid (B3.out.trans (hB.mono (show w.heap.size ≤ w.heap.size + 1 by omega))); clear hA hB))
 exact ret_st1 rfl (w.heap.size + 1) X false rfl HX.out X5.out rfl ⟨rfl, B5.out⟩
theorem AtE.cell1 {w : World} {g : Nat} {x : Ent} (h : AtE w g x) : w.cell? ⟨g, 1, none⟩ = some (.int .i64 x.parent) := cell_row h 1 _ rfl
set_option maxRecDepth 100000 in
set_option maxHeartbeats 1600000 in
theorem fentryStep (n : Int) (hn : 0 ≤ n ∧ n ≤ 200) (x : Ent) (hx : x.ok) (w : World) : Calls Tryz.prog 153 #[.int .i64 n, aggE x] w fun e w' => e = .returned (aggT (wEnt n x x.parent) false) ∧ Below w.heap.size w w' := by
 have HI := Lib.hid fun w => entry_any x hx w
 have HS := Lib.hid (entV_sec x)
 have HT := Lib.hid fun w' => fstepTo (17 + n) (entV x) (entV_sec x) 3 x.parent w'
 change Hid (∀ w', Calls _ _ _ w' fun e w'' => e = .returned (aggT (wEnt n x x.parent) false) ∧ Below w'.heap.size w' w'') at HT
 have HX := Lib.hid (show Sec (wEnt n x x.parent).s from entV_sec x)
 generalize wEnt n x x.parent = X at *
 generalize entV x = s at *
 generalize rightE x = rb at *
 have a0 : AtE ((w.alloc (.cells #[.bool x.used, .int .i64 x.parent, .string x.name, .int .i64 x.target] 126)).alloc (.cells #[Value.int IntKind.i64 0, Value.int IntKind.u8 0, Value.int IntKind.u8 0, Value.int IntKind.u8 0, Value.int IntKind.u8 0, Value.int IntKind.u8 0, Value.int IntKind.u8 0, Value.int IntKind.u8 0, Value.int IntKind.u8 0, Value.int IntKind.u8 0, Value.int IntKind.u8 0, Value.int IntKind.u8 0, Value.int IntKind.u8 0, Value.int IntKind.u8 0, Value.int IntKind.u8 0, Value.int IntKind.u8 0, Value.int IntKind.u8 0, Value.int IntKind.u8 0, Value.int IntKind.u8 0, Value.int IntKind.u8 0, Value.int IntKind.u8 0, Value.int IntKind.u8 0, Value.int IntKind.u8 0, Value.int IntKind.u8 0, Value.int IntKind.u8 0, Value.int IntKind.u8 0, Value.int IntKind.u8 0, Value.int IntKind.u8 0, Value.int IntKind.u8 0, Value.int IntKind.u8 0, Value.int IntKind.u8 0, Value.int IntKind.u8 0, Value.int IntKind.u8 0, Value.int IntKind.i64 0, Value.int IntKind.i64 0, Value.int IntKind.i64 0, Value.bool false] 188)) w.heap.size x := (atE_new w x).later (below_alloc (Below.refl _ _) _)
 have a2 := atSt_lit (w.alloc (.cells #[.bool x.used, .int .i64 x.parent, .string x.name, .int .i64 x.target] 126))
 rw [World.size_alloc] at a2
 have hbw := below_alloc (below_alloc (Below.refl w.heap.size w) (.cells #[.bool x.used, .int .i64 x.parent, .string x.name, .int .i64 x.target] 126)) (.cells #[Value.int IntKind.i64 0, Value.int IntKind.u8 0, Value.int IntKind.u8 0, Value.int IntKind.u8 0, Value.int IntKind.u8 0, Value.int IntKind.u8 0, Value.int IntKind.u8 0, Value.int IntKind.u8 0, Value.int IntKind.u8 0, Value.int IntKind.u8 0, Value.int IntKind.u8 0, Value.int IntKind.u8 0, Value.int IntKind.u8 0, Value.int IntKind.u8 0, Value.int IntKind.u8 0, Value.int IntKind.u8 0, Value.int IntKind.u8 0, Value.int IntKind.u8 0, Value.int IntKind.u8 0, Value.int IntKind.u8 0, Value.int IntKind.u8 0, Value.int IntKind.u8 0, Value.int IntKind.u8 0, Value.int IntKind.u8 0, Value.int IntKind.u8 0, Value.int IntKind.u8 0, Value.int IntKind.u8 0, Value.int IntKind.u8 0, Value.int IntKind.u8 0, Value.int IntKind.u8 0, Value.int IntKind.u8 0, Value.int IntKind.u8 0, Value.int IntKind.u8 0, Value.int IntKind.i64 0, Value.int IntKind.i64 0, Value.int IntKind.i64 0, Value.bool false] 188)
 obtain ⟨W, hW⟩ : ∃ W, (w.alloc (.cells #[.bool x.used, .int .i64 x.parent, .string x.name, .int .i64 x.target] 126)).alloc (.cells #[Value.int IntKind.i64 0, Value.int IntKind.u8 0, Value.int IntKind.u8 0, Value.int IntKind.u8 0, Value.int IntKind.u8 0, Value.int IntKind.u8 0, Value.int IntKind.u8 0, Value.int IntKind.u8 0, Value.int IntKind.u8 0, Value.int IntKind.u8 0, Value.int IntKind.u8 0, Value.int IntKind.u8 0, Value.int IntKind.u8 0, Value.int IntKind.u8 0, Value.int IntKind.u8 0, Value.int IntKind.u8 0, Value.int IntKind.u8 0, Value.int IntKind.u8 0, Value.int IntKind.u8 0, Value.int IntKind.u8 0, Value.int IntKind.u8 0, Value.int IntKind.u8 0, Value.int IntKind.u8 0, Value.int IntKind.u8 0, Value.int IntKind.u8 0, Value.int IntKind.u8 0, Value.int IntKind.u8 0, Value.int IntKind.u8 0, Value.int IntKind.u8 0, Value.int IntKind.u8 0, Value.int IntKind.u8 0, Value.int IntKind.u8 0, Value.int IntKind.u8 0, Value.int IntKind.i64 0, Value.int IntKind.i64 0, Value.int IntKind.i64 0, Value.bool false] 188) = W := ⟨_, rfl⟩
 rw [hW] at hbw a0 a2
 have HB0 := Lib.hid hbw
 have A0 := Lib.hid a0
 have A2 := Lib.hid a2
 clear hx hbw a0 a2
 go_enter Tryz.func153, Tryz.ntmps153
 go_upto_region 1 with fail
 try rw [hW]
 clear hW
 go_wp2_with (first | (refine load_ent rfl (.tmp 3) rfl w.heap.size rfl x A0.out ?_) | (go_at_call 182; refine (HI.out _).mono ?_; rintro e w1 ⟨rfl, hb⟩; have B1 := Lib.hid (below_trans HB0.out hb); have X1 := Lib.hid (A2.out.later hb); have E1 := Lib.hid (A0.out.later hb); clear hb) | (refine store_at rfl (.tmp 5) (.tmp 10) rfl rfl w1.heap.size s zero32 rfl rfl HS.out.1 (by decide) (at_lit w1) ?_; intro w2 hA hB _; have hb := (below_alloc (Below.refl _ w1) _).trans hB; have B2 := Lib.hid (below_trans B1.out hb); have X2 := Lib.hid (X1.out.later hb); have c1 := AtE.cell1 (E1.out.later hb); have S2 := Lib.hid hA; clear hA hB hb) | (refine load_at rfl (.tmp 5) rfl w1.heap.size rfl s HS.out.1 S2.out ?_) | (go_at_call 183; refine (HT.out _).mono ?_; rintro e w3 ⟨rfl, hb⟩; have B3 := Lib.hid (below_trans B2.out hb); have X3 := Lib.hid (X2.out.later hb); clear hb) | (refine store_st rfl (.tmp 4) (.tmp 17) rfl rfl (w.heap.size + 1) X w0 false false rfl rfl HX.out sec_zero X3.out ?_; intro w5 hA hB; have X5 := Lib.hid hA; have B5 := Lib.hid (B3.out.trans (hB.mono (show w.heap.size ≤ w.heap.size + 1 by omega))); clear hA hB))
 exact ret_st1 rfl (w.heap.size + 1) X false rfl HX.out X5.out rfl ⟨rfl, B5.out⟩
set_option maxRecDepth 100000 in
set_option maxHeartbeats 1600000 in
theorem fclearStep (n : Int) (hn : 0 ≤ n ∧ n ≤ 200) (f : Int) (w : World) : Calls Tryz.prog 130 #[.int .i64 n, .int .i64 f] w fun e w' => e = .returned (aggT (wEnt n ent0 f) false) ∧ Below w.heap.size w w' := by
 have HI : Hid (∀ w, Calls Tryz.prog 182 #[.agg #[.bool false, .int .i64 0, .string { data := #[] }, .int .i64 0]] w fun e w' => e = .returned (.tuple #[agg (entV ent0), .bool (rightE ent0)]) ∧ Below w.heap.size w w') := Lib.hid fun w => entry_any ent0 ent0_ok w
 have HS := Lib.hid (entV_sec ent0)
 have HT := Lib.hid fun w' => fstepTo (17 + n) (entV ent0) (entV_sec ent0) 3 f w'
 change Hid (∀ w', Calls _ _ _ w' fun e w'' => e = .returned (aggT (wEnt n ent0 f) false) ∧ Below w'.heap.size w' w'') at HT
 have HX := Lib.hid (show Sec (wEnt n ent0 f).s from entV_sec ent0)
 generalize wEnt n ent0 f = X at *
 generalize entV ent0 = s at *
 generalize rightE ent0 = rb at *
 have a2 := atSt_lit w
 have hbw := below_alloc (Below.refl w.heap.size w) (.cells #[Value.int IntKind.i64 0, Value.int IntKind.u8 0, Value.int IntKind.u8 0, Value.int IntKind.u8 0, Value.int IntKind.u8 0, Value.int IntKind.u8 0, Value.int IntKind.u8 0, Value.int IntKind.u8 0, Value.int IntKind.u8 0, Value.int IntKind.u8 0, Value.int IntKind.u8 0, Value.int IntKind.u8 0, Value.int IntKind.u8 0, Value.int IntKind.u8 0, Value.int IntKind.u8 0, Value.int IntKind.u8 0, Value.int IntKind.u8 0, Value.int IntKind.u8 0, Value.int IntKind.u8 0, Value.int IntKind.u8 0, Value.int IntKind.u8 0, Value.int IntKind.u8 0, Value.int IntKind.u8 0, Value.int IntKind.u8 0, Value.int IntKind.u8 0, Value.int IntKind.u8 0, Value.int IntKind.u8 0, Value.int IntKind.u8 0, Value.int IntKind.u8 0, Value.int IntKind.u8 0, Value.int IntKind.u8 0, Value.int IntKind.u8 0, Value.int IntKind.u8 0, Value.int IntKind.i64 0, Value.int IntKind.i64 0, Value.int IntKind.i64 0, Value.bool false] 188)
 obtain ⟨W, hW⟩ : ∃ W, w.alloc (.cells #[Value.int IntKind.i64 0, Value.int IntKind.u8 0, Value.int IntKind.u8 0, Value.int IntKind.u8 0, Value.int IntKind.u8 0, Value.int IntKind.u8 0, Value.int IntKind.u8 0, Value.int IntKind.u8 0, Value.int IntKind.u8 0, Value.int IntKind.u8 0, Value.int IntKind.u8 0, Value.int IntKind.u8 0, Value.int IntKind.u8 0, Value.int IntKind.u8 0, Value.int IntKind.u8 0, Value.int IntKind.u8 0, Value.int IntKind.u8 0, Value.int IntKind.u8 0, Value.int IntKind.u8 0, Value.int IntKind.u8 0, Value.int IntKind.u8 0, Value.int IntKind.u8 0, Value.int IntKind.u8 0, Value.int IntKind.u8 0, Value.int IntKind.u8 0, Value.int IntKind.u8 0, Value.int IntKind.u8 0, Value.int IntKind.u8 0, Value.int IntKind.u8 0, Value.int IntKind.u8 0, Value.int IntKind.u8 0, Value.int IntKind.u8 0, Value.int IntKind.u8 0, Value.int IntKind.i64 0, Value.int IntKind.i64 0, Value.int IntKind.i64 0, Value.bool false] 188) = W := ⟨_, rfl⟩
 rw [hW] at hbw a2
 have HB0 := Lib.hid hbw
 have A2 := Lib.hid a2
 clear hbw a2
 go_enter Tryz.func130, Tryz.ntmps130
 go_upto_region 1 with fail
 try rw [hW]
 clear hW
 go_wp2_with (first | (go_at_call 182; refine (HI.out _).mono ?_; rintro e w1 ⟨rfl, hb⟩; have B1 := Lib.hid (below_trans HB0.out hb); have X1 := Lib.hid (A2.out.later hb); clear hb) | (refine store_at rfl (.tmp 5) (.tmp 10) rfl rfl w1.heap.size s zero32 rfl rfl HS.out.1 (by decide) (at_lit w1) ?_; intro w2 hA hB _; have hb := (below_alloc (Below.refl _ w1) _).trans hB; have B2 := Lib.hid (below_trans B1.out hb); have X2 := Lib.hid (X1.out.later hb); have S2 := Lib.hid hA; clear hA hB hb) | (refine load_at rfl (.tmp 5) rfl w1.heap.size rfl s HS.out.1 S2.out ?_) | (go_at_call 183; refine (HT.out _).mono ?_; rintro e w3 ⟨rfl, hb⟩; have B3 := Lib.hid (below_trans B2.out hb); have X3 := Lib.hid (X2.out.later hb); clear hb) | (refine store_st rfl (.tmp 4) (.tmp 16) rfl rfl w.heap.size X w0 false false rfl rfl HX.out sec_zero X3.out ?_; intro w5 hA hB; have X5 := Lib.hid hA; have B5 := Lib.hid (B3.out.trans hB); clear hA hB))
 exact ret_st1 rfl w.heap.size X false rfl HX.out X5.out rfl ⟨rfl, B5.out⟩
set_option maxRecDepth 100000 in
set_option maxHeartbeats 1600000 in
theorem flater (x : Wr) (hx : Sec x.s) (b : Bool) (w : World) : Calls Tryz.prog 152 #[aggT x b] w fun e w' => e = .returned (aggT x true) ∧ Below w.heap.size w w' := by
 have HX := Lib.hid hx
 have a0 : AtSt ((w.alloc (.cells (stC x b).toArray 188)).alloc (.cells #[Value.int IntKind.i64 0, Value.int IntKind.u8 0, Value.int IntKind.u8 0, Value.int IntKind.u8 0, Value.int IntKind.u8 0, Value.int IntKind.u8 0, Value.int IntKind.u8 0, Value.int IntKind.u8 0, Value.int IntKind.u8 0, Value.int IntKind.u8 0, Value.int IntKind.u8 0, Value.int IntKind.u8 0, Value.int IntKind.u8 0, Value.int IntKind.u8 0, Value.int IntKind.u8 0, Value.int IntKind.u8 0, Value.int IntKind.u8 0, Value.int IntKind.u8 0, Value.int IntKind.u8 0, Value.int IntKind.u8 0, Value.int IntKind.u8 0, Value.int IntKind.u8 0, Value.int IntKind.u8 0, Value.int IntKind.u8 0, Value.int IntKind.u8 0, Value.int IntKind.u8 0, Value.int IntKind.u8 0, Value.int IntKind.u8 0, Value.int IntKind.u8 0, Value.int IntKind.u8 0, Value.int IntKind.u8 0, Value.int IntKind.u8 0, Value.int IntKind.u8 0, Value.int IntKind.i64 0, Value.int IntKind.i64 0, Value.int IntKind.i64 0, Value.bool false] 188)) w.heap.size x b := AtSt.later (heap_alloc_new _ _) (below_alloc (Below.refl _ _) _)
 have a2 := atSt_lit (w.alloc (.cells (stC x b).toArray 188))
 rw [World.size_alloc] at a2
 have hbw := below_alloc (below_alloc (Below.refl w.heap.size w) (.cells (stC x b).toArray 188)) (.cells #[Value.int IntKind.i64 0, Value.int IntKind.u8 0, Value.int IntKind.u8 0, Value.int IntKind.u8 0, Value.int IntKind.u8 0, Value.int IntKind.u8 0, Value.int IntKind.u8 0, Value.int IntKind.u8 0, Value.int IntKind.u8 0, Value.int IntKind.u8 0, Value.int IntKind.u8 0, Value.int IntKind.u8 0, Value.int IntKind.u8 0, Value.int IntKind.u8 0, Value.int IntKind.u8 0, Value.int IntKind.u8 0, Value.int IntKind.u8 0, Value.int IntKind.u8 0, Value.int IntKind.u8 0, Value.int IntKind.u8 0, Value.int IntKind.u8 0, Value.int IntKind.u8 0, Value.int IntKind.u8 0, Value.int IntKind.u8 0, Value.int IntKind.u8 0, Value.int IntKind.u8 0, Value.int IntKind.u8 0, Value.int IntKind.u8 0, Value.int IntKind.u8 0, Value.int IntKind.u8 0, Value.int IntKind.u8 0, Value.int IntKind.u8 0, Value.int IntKind.u8 0, Value.int IntKind.i64 0, Value.int IntKind.i64 0, Value.int IntKind.i64 0, Value.bool false] 188)
 obtain ⟨W, hW⟩ : ∃ W, (w.alloc (.cells (stC x b).toArray 188)).alloc (.cells #[Value.int IntKind.i64 0, Value.int IntKind.u8 0, Value.int IntKind.u8 0, Value.int IntKind.u8 0, Value.int IntKind.u8 0, Value.int IntKind.u8 0, Value.int IntKind.u8 0, Value.int IntKind.u8 0, Value.int IntKind.u8 0, Value.int IntKind.u8 0, Value.int IntKind.u8 0, Value.int IntKind.u8 0, Value.int IntKind.u8 0, Value.int IntKind.u8 0, Value.int IntKind.u8 0, Value.int IntKind.u8 0, Value.int IntKind.u8 0, Value.int IntKind.u8 0, Value.int IntKind.u8 0, Value.int IntKind.u8 0, Value.int IntKind.u8 0, Value.int IntKind.u8 0, Value.int IntKind.u8 0, Value.int IntKind.u8 0, Value.int IntKind.u8 0, Value.int IntKind.u8 0, Value.int IntKind.u8 0, Value.int IntKind.u8 0, Value.int IntKind.u8 0, Value.int IntKind.u8 0, Value.int IntKind.u8 0, Value.int IntKind.u8 0, Value.int IntKind.u8 0, Value.int IntKind.i64 0, Value.int IntKind.i64 0, Value.int IntKind.i64 0, Value.bool false] 188) = W := ⟨_, rfl⟩
 rw [hW] at hbw a0 a2
 have c36 := AtSt.flag hx a0
 have f36 := frozen_row a0 36
 have a1 := AtSt.mark hx a0 true
 have ht := dsk.Touch.setCell (dsk.Touch.refl (fun b => b = w.heap.size) W) ⟨w.heap.size, 36, none⟩ rfl (.bool true)
 have a3 : AtSt (W.setCell ⟨w.heap.size, 36, none⟩ (.bool true)) (w.heap.size + 1) w0 false := (ht.block _ a2.lt (by omega)).trans a2
 have hbx : Below w.heap.size w (W.setCell ⟨w.heap.size, 36, none⟩ (.bool true)) := hbw.setCell (p := ⟨w.heap.size, 36, none⟩) (Nat.le_refl _) _
 obtain ⟨W1, hW1⟩ : ∃ W1, W.setCell ⟨w.heap.size, 36, none⟩ (.bool true) = W1 := ⟨_, rfl⟩
 rw [hW1] at a1 a3 hbx
 have A1 := Lib.hid a1
 have A3 := Lib.hid a3
 have B1 := Lib.hid hbx
 have HW1 := Lib.hid hW1
 clear hx hbw a0 a2 a1 a3 hbx ht hW1
 go_enter Tryz.func152, Tryz.ntmps152
 go_upto_region 1 with fail
 try rw [hW]
 clear hW
 go_upto_region 2 with fail
 rw [HW1.out]
 go_wp2_with (first | (refine load_st rfl (.tmp 1) rfl w.heap.size rfl x true HX.out A1.out ?_) | (refine store_st rfl (.tmp 2) (.tmp 4) rfl rfl (w.heap.size + 1) x w0 true false rfl rfl HX.out sec_zero A3.out ?_; intro w5 hA hB; have X5 := Lib.hid hA; have B5 := Lib.hid (B1.out.trans (hB.mono (show w.heap.size ≤ w.heap.size + 1 by omega))); clear hA hB))
 exact ret_st1 rfl (w.heap.size + 1) x true rfl HX.out X5.out rfl ⟨rfl, B5.out⟩
end fs
namespace fs
set_option maxRecDepth 100000
open Go.ChangeShapes Go.WideShapes Go.ChangeAt Go.RowKit
open rows
open sec
open dsk (InS grow St Wr Wr.ok Wr.c w0 CA barrier writeR wr_parts ld_cell)
open ly
open pa
open lk
open al
def runV (st : St) : List (Wr × Bool) → Int × St
 | [] => (0, st)
 | (x, b) :: r =>
  if b = true ∧ (barrier st).1 ≠ 0 then barrier st
  else if (writeR (if b then (barrier st).2 else st) x.pos x.s x.kind x.id).1 ≠ 0 then writeR (if b then (barrier st).2 else st) x.pos x.s x.kind x.id
  else runV (writeR (if b then (barrier st).2 else st) x.pos x.s x.kind x.id).2 r
def pstC (x : Wr × Bool) : List Value := stC x.1 x.2
def stsC (l : List (Wr × Bool)) : List Value := (l.map pstC).flatten
theorem run_plain : ∀ (l : List Wr) (st : St), runV st (l.map fun x => (x, false)) = doR st l
 | [], st => rfl
 | x :: r, st => by
  rw [List.map_cons, runV, doR, if_neg (by simp)]
  simp only [Bool.false_eq_true, if_false]
  split
  ·rfl
  ·exact run_plain r _
theorem run_move (st : St) (x y : Wr) : runV st [(x, false), (y, true)] = moveR st x y := by
 rw [runV, if_neg (by simp), moveR]
 simp only [Bool.false_eq_true, if_false]
 rw [doR]
 by_cases h : (writeR st x.pos x.s x.kind x.id).1 ≠ 0
 ·rw [if_pos h, if_pos h, if_pos h]
 ·rw [if_neg h, if_neg h, if_neg (by simp [doR]), doR]
  rw [runV, doR, doR]
  simp only [true_and, if_true]
  split
  ·rfl
  ·split
   ·rfl
   ·rw [runV]
theorem good_lift {st : St} {k m : Nat} (h : st.good k) (hm : k ≤ m) : st.good m :=
 ⟨h.ss, h.n1, h.ws, h.es, Nat.le_trans h.wn hm, Nat.le_trans h.ln hm, h.bn, ⟨h.ep.1, by have := h.ep.2; omega⟩, ⟨h.asked.1, by have := h.asked.2; omega⟩⟩
theorem elem_sts : Elem 239 188 37 72 (aggT w0 false) := ⟨Tryz.underlying239, by kernel_rfl, by decide, by decide, by decide⟩
theorem bar_good {st : St} {k : Nat} (h : st.good k) : (barrier st).2.good (k + 1) := by
 unfold barrier
 split
 ·exact ⟨h.ss, h.n1, h.ws, h.es, by have := h.wn; show st.wait.length ≤ k + 1; omega, by have := h.ln; show st.log.length ≤ k + 1; omega, h.bn, ⟨h.ep.1, by have := h.ep.2; show st.ep ≤ ((k + 1 : Nat) : Int); omega⟩, ⟨by have := h.asked.1; show 0 ≤ st.asked + 1; omega, by have := h.asked.2; show st.asked + 1 ≤ ((k + 1 : Nat) : Int); omega⟩⟩
 ·refine ⟨h.ss, h.n1, h.ws, fun e he => ?_, by have := h.wn; show st.wait.length ≤ k + 1; omega, by have := h.ln; simp; omega, h.bn, ⟨by have := h.ep.1; show 0 ≤ st.ep + 1; omega, by have := h.ep.2; show st.ep + 1 ≤ ((k + 1 : Nat) : Int); omega⟩, ⟨by have := h.asked.1; show 0 ≤ st.asked + 1; omega, by have := h.asked.2; show st.asked + 1 ≤ ((k + 1 : Nat) : Int); omega⟩⟩
  rcases List.mem_append.1 he with he | he
  ·exact h.es e he
  ·rw [List.mem_singleton.1 he]; exact ⟨by show Sec dsk.w0.s; exact sec_zero, by simp⟩
theorem ca_wide {w : World} {F F' : Nat → Prop} {d : Value} {st : St} (h : CA w F d st) (hF : ∀ b, F b → F' b) : CA w F' d st := by
 obtain ⟨z, gg, vs, vw, vn, vl, vf, hd, h2⟩ := h
 exact ⟨z, gg, vs, vw, vn, vl, vf, hd, h2.wider hF fun _ _ => rfl⟩
theorem load_st_mid {ops : Array Oper} {rest : List Oper} {o : Oper} {a : Act} {w : World} {Q : Exit → Act → World → Prop} (hgd : o.guard = none) (p : Operand) (ho : o.op = .load 188 p)
  (g off : Nat) (hp : a.eval p = .pointer (some ⟨g, off, none⟩)) (x : Wr) (b : Bool) (hs : Sec x.s) (hg : w.rangeAt g off (stC x b))
  (h : wpList Tryz.prog ops Q rest (a.put o.dst (aggT x b)) w) : wpList Tryz.prog ops Q (o :: rest) a w :=
 wpList_load_mid hgd 188 p ho g off hp (stC x b) _ hg und_st rfl (by rw [info_st, stC_len hs]) h
theorem AtSt.wr {w : World} {g : Nat} {x : Wr} {b : Bool} (h : AtSt w g x b) : w.rangeAt g 0 x.c := fun j u hj => by
 refine h.range j u ?_
 rw [stC, List.getElem?_append_left (List.getElem?_eq_some_iff.1 hj).1]
 exact hj
theorem st_parts {F : Nat → Prop} {w w' : World} {g : Nat} {x : Wr} {b : Bool} (hs : Sec x.s) (h : AtSt w g x b) (ht : dsk.Touch F w.drew w') (hF : ¬ F g) : w'.cell? ⟨g, 0, none⟩ = some (.int .i64 x.pos) ∧ w'.rangeAt g 1 (u8s x.s) ∧ (w'.cell? ⟨g, 33, none⟩ = some (.int .i64 x.kind) ∧ w'.cell? ⟨g, 33 + 1, none⟩ = some (.int .i64 x.id)) := by
 have h2 : AtSt w' g x b := (ht.block g h.lt hF).trans h
 have h3 := wr_parts hs h2.wr
 exact ⟨h3.1, by simpa using h3.2.1, by simpa using h3.2.2.1, by simpa using h3.2.2.2.1⟩
set_option maxRecDepth 100000 in
set_option maxHeartbeats 3200000 in
theorem fperform_at (G : Nat → Prop) (g : Nat) (d : Value) (st : St) (xs : List (Wr × Bool)) (p : Option Addr) (m c : Nat) (w : World) (hGl : ∀ b, G b → b < w.heap.size) (h : FsAt w G g d st) (k : Nat) (hg : st.good k) (hk : k + 2 * m ≤ 900) (hm : m ≤ 10) (hr : Rd w 37 (.slice p m c) m (stsC xs)) (hin : InS (fun b => ¬ G b) (.slice p m c)) (hok : ∀ x ∈ xs, x.1.ok) :
  Calls Tryz.prog 129 #[.pointer (some ⟨g, 0, none⟩), .slice p m c] w (PDone G g d w (runV st xs)) := by
 have hlen : ∀ x ∈ xs, (pstC x).length = 37 := fun x hx => stC_len (hok x hx).1
 have HLN := Lib.hid hlen
 have HLL := Lib.hid (dsk.Rd.count pstC hr hlen (by decide))
 have HR := Lib.hid hr
 have HIN := Lib.hid hin
 have HOK := Lib.hid hok
 have HGG := Lib.hid hGl
 have HGL := Lib.hid h.row.lt
 have HAP := Lib.hid h.apart
 have HI : Hid (FsAt w (grow G w w) g d st) := Lib.hid (fsAt_wide h (fun b hb => Or.inl hb) (fun hh => by
  rcases hh with h1 | h1
  ·exact h.apart h1
  ·omega))
 have HG0 : Hid (st.good (k + 2 * 0)) := Lib.hid hg
 have hmi : (m : Int) ≤ 10 := by omega
 clear h hg hr hin hok hlen hGl
 go_enter Tryz.func129, Tryz.ntmps129
 go_wp2_with fail
 go_loopw [6, 7, 8, 11] (fun _ _ _ iv wr => ∃ (i : Nat) (sj : St), i ≤ m ∧ iv = .int .i64 (i : Int) ∧ Hid (runV st xs = runV sj (xs.drop i)) ∧ Hid (sj.good (k + 2 * i)) ∧ Hid (FsAt wr (grow G w wr) g d sj) ∧ Hid (dsk.Touch G w wr)) (fun _ _ _ iv _ => m - (intOf iv).toNat)
 case atStart => exact ⟨0, st, by omega, rfl, Lib.hid rfl, HG0, HI, Lib.hid (dsk.Touch.refl _ _)⟩
 case round =>
  obtain ⟨i, sj, hi, rfl, HD, HG, HA, HT⟩ := hrel
  clear HI HG0
  by_cases hlt : i < m
  ·have hlti : (i : Int) < m := by omega
   have hil : i < xs.length := by rw [HLL.out]; exact hlt
   have hrw : Rd wr 37 (.slice p m c) m (stsC xs) := dsk.Rd.kept HR.out HIN.out (HT.out.keeps fun b hb => hb)
   obtain ⟨b2, o2, rfl, hcc2, hcm2, hb2, _, HR2⟩ := dsk.Rd.chunk pstC hrw HLN.out (by decide) hlt
   have HX0 := HOK.out _ (List.getElem_mem hil)
   have HWR0 := HR2 i hil
   have HDS0 : xs.drop i = xs[i] :: xs.drop (i + 1) := List.drop_eq_getElem_cons hil
   generalize xs[i] = y at *
   obtain ⟨x, b⟩ := y
   have HX := Lib.hid (show x.ok from HX0)
   have HWR := Lib.hid (show wr.rangeAt b2 (o2 + i * 37) (stC x b) from HWR0)
   have HDS := Lib.hid HDS0
   have hNB : ¬ grow G w wr wr.heap.size := fun hh => by
    have := HT.out.size
    rcases hh with h1 | h1
    ·have := HGG.out _ h1; omega
    ·omega
   have HNB := Lib.hid hNB
   have hgw : wr.heap.size ≠ g := by have := HT.out.size; have := HGL.out; omega
   clear HR2 hrw HX0 HWR0 HDS0 hNB
   go_upto_region 4 with (first | (refine load_st_mid rfl (.tmp 13) rfl b2 (o2 + i * 37) rfl x b HX.out.1 HWR.out ?_) | (refine store_st rfl (.tmp 6) (.tmp 14) rfl rfl wr.heap.size x w0 b false rfl rfl HX.out.1 sec_zero (atSt_lit wr) ?_; intro w2 hA hB; have A2 := Lib.hid hA; have B2 := Lib.hid ((below_alloc (Below.refl wr.heap.size wr) _).trans hB); clear hA hB))
   have c36 := AtSt.flag HX.out.1 A2.out
   have HA2 := Lib.hid (HA.out.later B2.out)
   have T2 : Hid (dsk.Touch G w w2) := Lib.hid (HT.out.trans (dsk.Touch.of_below B2.out))
   have s2 : wr.heap.size < w2.heap.size := A2.out.lt
   cases b with
   | false =>
    have F1 := Lib.hid (HA2.out.row)
    have HC := Lib.hid fun w' (hb : Below w2.heap.size w2 w') => dsk.cwrite w' (grow G w wr) d sj x.pos x.s x.kind x.id (Go.Proofs.YtpahnfnfoldbhaaGreatDoor.lk.CA.later' HA2.out.code hb) (HG.out.fine (by omega)) HX.out.2.1 HX.out.1 HX.out.2.2.1 HX.out.2.2.2.1
    have HGN := Lib.hid (write_good HG.out x.pos x.s x.kind x.id HX.out.1)
    have HDO : Hid (runV st xs = if (writeR sj x.pos x.s x.kind x.id).1 ≠ 0 then writeR sj x.pos x.s x.kind x.id else runV (writeR sj x.pos x.s x.kind x.id).2 (xs.drop (i + 1))) := Lib.hid (by
     rw [HD.out, HDS.out, runV, if_neg (by simp)]
     simp only [Bool.false_eq_true, if_false])
    have HPT := Lib.hid fun w' (hw : dsk.Touch (grow G w wr) w2.drew w') => st_parts HX.out.1 A2.out hw HNB.out
    have HPD := Lib.hid fun w' (hw : dsk.Touch (grow G w wr) w2.drew w') => (FR.touch (w := w2.drew) F1.out hw HA.out.apart).disk
    have HFG := Lib.hid fun b (hb : grow G w wr b) => (show G b ∨ w.heap.size ≤ b from hb.imp id (fun h => h.1))
    have HFG2 := Lib.hid fun b (hb : grow G w wr b) => (show grow G w w2 b from hb.imp id (fun h => ⟨h.1, by omega⟩))
    have HNA := Lib.hid HA.out.apart
    obtain ⟨F, hF⟩ : ∃ F, grow G w wr = F := ⟨_, rfl⟩
    rw [hF] at HC HPT HPD HFG HFG2 HNA
    obtain ⟨r, hr⟩ : ∃ r, writeR sj x.pos x.s x.kind x.id = r := ⟨_, rfl⟩
    rw [hr] at HDO HGN HC
    obtain ⟨e1, s1⟩ := r
    simp only at HDO HGN HC
    clear hr hF HA HA2
    go_upto_region 8 with fail
    have h0 := dsk.Touch.refl F w2.drew
    refine wp_region_held_drew (S := dsk.Touch F w2.drew) (by kernel_rfl) h0 (fun hH0 => ?_)
    refine wpAnyH_take (i := 0) (oi := { dst := some 25, op := Op.move (Operand.tmp 0), type := 33, pos := "steps.go:22", after := #[], guard := none }) (v := ?_) rfl (by kernel_rfl) (by kernel_rfl) (by kernel_rfl) (fun _ _ _ h => h) (Or.inl ⟨by rfl, ?_⟩) (by assumption) ?_
    rotate_left
    ·(intro w' hSw; go_simp; try with_reducible rfl)
    try simp only [Act.put, List.setIfInBounds_toArray, List.set_cons_zero, List.set_cons_succ]
    refine wpAnyH_take (i := 1) (oi := { dst := some 26, op := Op.nilCheck (Operand.tmp 25), type := 0, pos := "steps.go:22", after := #[{ on := 0, ground := Ground.data }], guard := none }) (v := ?_) rfl (by kernel_rfl) (by kernel_rfl) (by kernel_rfl) (fun _ _ _ h => h) (Or.inl ⟨by rfl, ?_⟩) (by assumption) ?_
    rotate_left
    ·(intro w' hSw; go_simp; try with_reducible rfl)
    try simp only [Act.put, List.setIfInBounds_toArray, List.set_cons_zero, List.set_cons_succ]
    refine wpAnyH_take (i := 2) (oi := { dst := some 27, op := Op.fieldAddr 77 (Operand.tmp 26) 1, type := 0, pos := "steps.go:22", after := #[{ on := 1, ground := Ground.data }], guard := none }) (v := ?_) rfl (by kernel_rfl) (by kernel_rfl) (by kernel_rfl) (fun _ _ _ h => h) (Or.inl ⟨by rfl, ?_⟩) (by assumption) ?_
    rotate_left
    ·(intro w' hSw; go_simp; try with_reducible rfl)
    try simp only [Act.put, List.setIfInBounds_toArray, List.set_cons_zero, List.set_cons_succ]
    refine' wpAnyH_take (i := 3) (oi := { dst := some 28, op := Op.load 26 (Operand.tmp 27), type := 26, pos := "steps.go:22", after := #[{ on := 2, ground := Ground.data }], guard := none }) (v := _) rfl (by kernel_rfl) (by kernel_rfl) (by kernel_rfl) (fun _ _ _ h => h) (ld_cell (by rfl) 26 _ Tryz.underlying26 rfl _ rfl g 1 rfl _ (fun w' hw => HPD.out w' hw)) (by assumption) ?_
    try simp only [Act.put, List.setIfInBounds_toArray, List.set_cons_zero, List.set_cons_succ]
    refine wpAnyH_take (i := 4) (oi := { dst := some 29, op := Op.fieldAddr 188 (Operand.tmp 6) 0, type := 0, pos := "steps.go:22", after := #[], guard := none }) (v := ?_) rfl (by kernel_rfl) (by kernel_rfl) (by kernel_rfl) (fun _ _ _ h => h) (Or.inl ⟨by rfl, ?_⟩) (by assumption) ?_
    rotate_left
    ·(intro w' hSw; go_simp; try with_reducible rfl)
    try simp only [Act.put, List.setIfInBounds_toArray, List.set_cons_zero, List.set_cons_succ]
    refine wpAnyH_take (i := 5) (oi := { dst := some 30, op := Op.fieldAddr 92 (Operand.tmp 29) 0, type := 0, pos := "steps.go:22", after := #[{ on := 4, ground := Ground.data }], guard := none }) (v := ?_) rfl (by kernel_rfl) (by kernel_rfl) (by kernel_rfl) (fun _ _ _ h => h) (Or.inl ⟨by rfl, ?_⟩) (by assumption) ?_
    rotate_left
    ·(intro w' hSw; go_simp; try with_reducible rfl)
    try simp only [Act.put, List.setIfInBounds_toArray, List.set_cons_zero, List.set_cons_succ]
    refine' wpAnyH_take (i := 6) (oi := { dst := some 31, op := Op.load 3 (Operand.tmp 30), type := 3, pos := "steps.go:22", after := #[{ on := 5, ground := Ground.data }], guard := none }) (v := _) rfl (by kernel_rfl) (by kernel_rfl) (by kernel_rfl) (fun _ _ _ h => h) (ld_cell (by rfl) 3 _ Tryz.underlying3 rfl _ rfl wr.heap.size 0 rfl _ (fun w' hw => (HPT.out w' hw).1)) (by assumption) ?_
    try simp only [Act.put, List.setIfInBounds_toArray, List.set_cons_zero, List.set_cons_succ]
    refine wpAnyH_take (i := 7) (oi := { dst := some 32, op := Op.fieldAddr 188 (Operand.tmp 6) 0, type := 0, pos := "steps.go:22", after := #[], guard := none }) (v := ?_) rfl (by kernel_rfl) (by kernel_rfl) (by kernel_rfl) (fun _ _ _ h => h) (Or.inl ⟨by rfl, ?_⟩) (by assumption) ?_
    rotate_left
    ·(intro w' hSw; go_simp; try with_reducible rfl)
    try simp only [Act.put, List.setIfInBounds_toArray, List.set_cons_zero, List.set_cons_succ]
    refine wpAnyH_take (i := 8) (oi := { dst := some 33, op := Op.fieldAddr 92 (Operand.tmp 32) 1, type := 0, pos := "steps.go:22", after := #[{ on := 7, ground := Ground.data }], guard := none }) (v := ?_) rfl (by kernel_rfl) (by kernel_rfl) (by kernel_rfl) (fun _ _ _ h => h) (Or.inl ⟨by rfl, ?_⟩) (by assumption) ?_
    rotate_left
    ·(intro w' hSw; go_simp; try with_reducible rfl)
    try simp only [Act.put, List.setIfInBounds_toArray, List.set_cons_zero, List.set_cons_succ]
    refine' wpAnyH_take (i := 9) (oi := { dst := some 34, op := Op.load 84 (Operand.tmp 33), type := 84, pos := "steps.go:22", after := #[{ on := 8, ground := Ground.data }], guard := none }) (v := _) rfl (by kernel_rfl) (by kernel_rfl) (by kernel_rfl) (fun _ _ _ h => h) (ld_sec (by rfl) _ rfl wr.heap.size 1 rfl x.s HX.out.1.1 (fun w' hw => (HPT.out w' hw).2.1)) (by assumption) ?_
    try simp only [Act.put, List.setIfInBounds_toArray, List.set_cons_zero, List.set_cons_succ]
    refine wpAnyH_take (i := 10) (oi := { dst := some 35, op := Op.fieldAddr 188 (Operand.tmp 6) 0, type := 0, pos := "steps.go:22", after := #[], guard := none }) (v := ?_) rfl (by kernel_rfl) (by kernel_rfl) (by kernel_rfl) (fun _ _ _ h => h) (Or.inl ⟨by rfl, ?_⟩) (by assumption) ?_
    rotate_left
    ·(intro w' hSw; go_simp; try with_reducible rfl)
    try simp only [Act.put, List.setIfInBounds_toArray, List.set_cons_zero, List.set_cons_succ]
    refine wpAnyH_take (i := 11) (oi := { dst := some 36, op := Op.fieldAddr 92 (Operand.tmp 35) 2, type := 0, pos := "steps.go:22", after := #[{ on := 10, ground := Ground.data }], guard := none }) (v := ?_) rfl (by kernel_rfl) (by kernel_rfl) (by kernel_rfl) (fun _ _ _ h => h) (Or.inl ⟨by rfl, ?_⟩) (by assumption) ?_
    rotate_left
    ·(intro w' hSw; go_simp; try with_reducible rfl)
    try simp only [Act.put, List.setIfInBounds_toArray, List.set_cons_zero, List.set_cons_succ]
    refine' wpAnyH_take (i := 12) (oi := { dst := some 37, op := Op.load 90 (Operand.tmp 36), type := 90, pos := "steps.go:22", after := #[{ on := 11, ground := Ground.data }], guard := none }) (v := _) rfl (by kernel_rfl) (by kernel_rfl) (by kernel_rfl) (fun _ _ _ h => h) (ld_tag (by rfl) _ rfl wr.heap.size 33 rfl x.kind x.id (fun w' hw => (HPT.out w' hw).2.2)) (by assumption) ?_
    try simp only [Act.put, List.setIfInBounds_toArray, List.set_cons_zero, List.set_cons_succ]
    refine wpAnyH_ready (rs := [13]) (by kernel_rfl) (by simp) ?_
    refine AllReadyH.cons (o := { dst := some 38, op := Op.call { callee := Callee.value (Operand.func 181), args := #[Operand.tmp 28, Operand.tmp 31, Operand.tmp 34, Operand.tmp 37], argTypes := #[26, 3, 84, 90] }, type := 27, pos := "steps.go:22", after := #[{ on := 3, ground := Ground.data }, { on := 6, ground := Ground.data }, { on := 9, ground := Ground.data }, { on := 12, ground := Ground.data }], guard := none }) rfl (fun K hK => ?_) AllReadyH.nil
    go_simp
    refine (HC.out _ ((Below.refl w2.heap.size w2).drew)).mono ?_
    rintro e v1 ⟨rfl, hc1, ht1⟩
    have HC1 := Lib.hid hc1
    have h1 := ht1
    clear hc1
    dsimp only
    refine hK.out _ _ ?_ (fun hHeld => ?_)
    ·exact h1
    clear hK K
    try simp only [Act.put, List.setIfInBounds_toArray, List.set_cons_zero, List.set_cons_succ]
    refine wpAnyH_take (i := 14) (oi := { dst := some 8, op := Op.assign (Operand.tmp 38), type := 27, pos := "steps.go:22", after := #[{ on := 13, ground := Ground.data }, { on := 13, ground := Ground.chain }, { on := 0, ground := Ground.phase }, { on := 1, ground := Ground.phase }, { on := 2, ground := Ground.phase }, { on := 3, ground := Ground.phase }, { on := 4, ground := Ground.phase }, { on := 5, ground := Ground.phase }, { on := 6, ground := Ground.phase }, { on := 7, ground := Ground.phase }, { on := 8, ground := Ground.phase }, { on := 9, ground := Ground.phase }, { on := 10, ground := Ground.phase }, { on := 11, ground := Ground.phase }, { on := 12, ground := Ground.phase }, { on := 13, ground := Ground.phase }], guard := none }) (v := ?_) rfl (by kernel_rfl) (by kernel_rfl) (by kernel_rfl) (fun _ _ _ h => h) (Or.inl ⟨by rfl, ?_⟩) (by assumption) ?_
    rotate_left
    ·(intro w' hSw; go_simp; try with_reducible rfl)
    try simp only [Act.put, List.setIfInBounds_toArray, List.set_cons_zero, List.set_cons_succ]
    refine wpAnyH_done (by kernel_rfl) ?_ _
    have TV : Hid (dsk.Touch F w2 v1) := Lib.hid ⟨h1.os, h1.tape, h1.output, h1.size, h1.block⟩
    have HB3 : Hid (dsk.Touch G w v1) := Lib.hid (T2.out.trans' TV.out HFG.out)
    have HA3 : Hid (FsAt v1 (grow G w v1) g d s1) := Lib.hid ⟨F1.out.touch TV.out HNA.out, ca_wide HC1.out (fun b hb => by
     have q1 := T2.out.size
     have q2 : w2.heap.size ≤ v1.heap.size := TV.out.size
     rcases hb with hb | hb
     ·rcases HFG2.out b hb with hb | hb
      ·exact Or.inl hb
      ·exact Or.inr ⟨hb.1, by omega⟩
     ·exact Or.inr ⟨by have : w2.heap.size ≤ b := hb.1; omega, hb.2⟩), fun hh => by
      have := HGL.out
      rcases hh with h1 | h1
      ·exact HAP.out h1
      ·omega⟩
    by_cases he : e1 = 0
    ·subst he
     have HD3 : Hid (runV st xs = runV s1 (xs.drop (i + 1))) := Lib.hid (by rw [HDO.out, if_neg (by simp)])
     go_wp2_with fail
     go_roundw
     case rel => exact ⟨i + 1, s1, by omega, by go_num, HD3, Lib.hid (good_lift HGN.out (by omega)), HA3, HB3⟩
     case measure => simp [intOf]; omega
    ·have hne : (e1 != 0) = true := by simpa using he
     have HD3 : Hid (runV st xs = (e1, s1)) := Lib.hid (by rw [HDO.out, if_pos he])
     go_wp2_with fail
     go_ret
     exact ⟨by rw [HD3.out]; rfl, by rw [HD3.out]; exact HA3.out, HB3.out⟩
   | true =>
    have F1 := Lib.hid (HA2.out.row)
    have c1 := HA2.out.row.disk
    have HBA := Lib.hid (dsk.cbarrier w2 (grow G w wr) d sj HA2.out.code (HG.out.fine (by omega)))
    have HGB := Lib.hid (bar_good HG.out)
    have HNA := Lib.hid HA.out.apart
    have HDO : Hid (runV st xs = if (barrier sj).1 ≠ 0 then barrier sj else if (writeR (barrier sj).2 x.pos x.s x.kind x.id).1 ≠ 0 then writeR (barrier sj).2 x.pos x.s x.kind x.id else runV (writeR (barrier sj).2 x.pos x.s x.kind x.id).2 (xs.drop (i + 1))) := Lib.hid (by
     rw [HD.out, HDS.out, runV]
     simp only [true_and, if_true])
    have HFG0 := Lib.hid fun b (hb : grow G w wr b) => (show G b ∨ w.heap.size ≤ b from hb.imp id (fun h => h.1))
    have HFG1 := Lib.hid fun b (hb : grow G w wr b) => (show grow G w w2 b from hb.imp id (fun h => ⟨h.1, by omega⟩))
    obtain ⟨F0, hF⟩ : ∃ F, grow G w wr = F := ⟨_, rfl⟩
    rw [hF] at HBA HFG0 HFG1 HNA HNB
    obtain ⟨rb, hrb⟩ : ∃ r, barrier sj = r := ⟨_, rfl⟩
    rw [hrb] at HDO HGB HBA
    obtain ⟨e0, s0⟩ := rb
    simp only at HDO HGB HBA
    clear hrb hF HA HA2
    go_upto_region 6 with (first | (go_at_call 111; refine HBA.out.mono ?_; rintro e w3 ⟨rfl, hc0, ht0⟩; have C3 := Lib.hid hc0; have T3 := Lib.hid ht0; clear hc0 ht0))
    have F3 := Lib.hid (F1.out.touch T3.out HNA.out)
    have A3 : Hid (AtSt w3 wr.heap.size x true) := Lib.hid ((T3.out.block _ A2.out.lt HNB.out).trans A2.out)
    have T4 : Hid (dsk.Touch G w w3) := Lib.hid (T2.out.trans' T3.out HFG0.out)
    have s3 := T3.out.size
    have HFG3 : Hid (∀ b, grow F0 w2 w3 b → grow G w w3 b) := Lib.hid fun b hb => by
     have q1 := T2.out.size
     rcases hb with hb | hb
     ·rcases HFG1.out b hb with hb | hb
      ·exact Or.inl hb
      ·exact Or.inr ⟨hb.1, by omega⟩
     ·exact Or.inr ⟨by omega, hb.2⟩
    by_cases he0 : e0 = 0
    ·subst he0
     have HDO2 : Hid (runV st xs = if (writeR s0 x.pos x.s x.kind x.id).1 ≠ 0 then writeR s0 x.pos x.s x.kind x.id else runV (writeR s0 x.pos x.s x.kind x.id).2 (xs.drop (i + 1))) := Lib.hid (by rw [HDO.out, if_neg (by simp)])
     have HNB3 : ¬ grow F0 w2 w3 wr.heap.size := fun hh => by
      rcases hh with h1 | h1
      ·exact HNB.out h1
      ·omega
     have HNA3 : ¬ grow F0 w2 w3 g := fun hh => by
      have := HGL.out
      have := T2.out.size
      rcases hh with h1 | h1
      ·exact HNA.out h1
      ·omega
     have HC := Lib.hid fun w' (hb : Below w3.heap.size w3 w') => dsk.cwrite w' (grow F0 w2 w3) d s0 x.pos x.s x.kind x.id (Go.Proofs.YtpahnfnfoldbhaaGreatDoor.lk.CA.later' C3.out hb) (HGB.out.fine (by omega)) HX.out.2.1 HX.out.1 HX.out.2.2.1 HX.out.2.2.2.1
     have HGN := Lib.hid (write_good HGB.out x.pos x.s x.kind x.id HX.out.1)
     have HPT := Lib.hid fun w' (hw : dsk.Touch (grow F0 w2 w3) w3.drew w') => st_parts HX.out.1 A3.out hw HNB3
     have HPD := Lib.hid fun w' (hw : dsk.Touch (grow F0 w2 w3) w3.drew w') => (FR.touch (w := w3.drew) F3.out hw HNA3).disk
     have HFG := Lib.hid fun b (hb : grow F0 w2 w3 b) => (show G b ∨ w.heap.size ≤ b from (HFG3.out b hb).imp id (fun h => h.1))
     have HNAF := Lib.hid HNA3
     have HFGX := Lib.hid HFG3.out
     obtain ⟨F, hF⟩ : ∃ F, grow F0 w2 w3 = F := ⟨_, rfl⟩
     rw [hF] at HC HPT HPD HFG HFGX HNAF
     obtain ⟨r, hr⟩ : ∃ r, writeR s0 x.pos x.s x.kind x.id = r := ⟨_, rfl⟩
     rw [hr] at HDO2 HGN HC
     obtain ⟨e1, s1⟩ := r
     simp only at HDO2 HGN HC
     clear hr hF HNB3 HNA3 HFG3 C3 T3 T2 A2 HDO HNA HNB HFG0 HFG1 F1
     have F1 := F3
     have T2 := T4
     have HFG2 := HFGX
     have HDO := HDO2
     have HNA := HNAF
     clear F3 T4 HFGX HDO2 HNAF
     clear s2 c1 c36
     have s2 := A3.out.lt
     clear A3 s3 HGB
     go_upto_region 8 with fail
     have h0 := dsk.Touch.refl F w3.drew
     refine wp_region_held_drew (S := dsk.Touch F w3.drew) (by kernel_rfl) h0 (fun hH0 => ?_)
     refine wpAnyH_take (i := 0) (oi := { dst := some 25, op := Op.move (Operand.tmp 0), type := 33, pos := "steps.go:22", after := #[], guard := none }) (v := ?_) rfl (by kernel_rfl) (by kernel_rfl) (by kernel_rfl) (fun _ _ _ h => h) (Or.inl ⟨by rfl, ?_⟩) (by assumption) ?_
     rotate_left
     ·(intro w' hSw; go_simp; try with_reducible rfl)
     try simp only [Act.put, List.setIfInBounds_toArray, List.set_cons_zero, List.set_cons_succ]
     refine wpAnyH_take (i := 1) (oi := { dst := some 26, op := Op.nilCheck (Operand.tmp 25), type := 0, pos := "steps.go:22", after := #[{ on := 0, ground := Ground.data }], guard := none }) (v := ?_) rfl (by kernel_rfl) (by kernel_rfl) (by kernel_rfl) (fun _ _ _ h => h) (Or.inl ⟨by rfl, ?_⟩) (by assumption) ?_
     rotate_left
     ·(intro w' hSw; go_simp; try with_reducible rfl)
     try simp only [Act.put, List.setIfInBounds_toArray, List.set_cons_zero, List.set_cons_succ]
     refine wpAnyH_take (i := 2) (oi := { dst := some 27, op := Op.fieldAddr 77 (Operand.tmp 26) 1, type := 0, pos := "steps.go:22", after := #[{ on := 1, ground := Ground.data }], guard := none }) (v := ?_) rfl (by kernel_rfl) (by kernel_rfl) (by kernel_rfl) (fun _ _ _ h => h) (Or.inl ⟨by rfl, ?_⟩) (by assumption) ?_
     rotate_left
     ·(intro w' hSw; go_simp; try with_reducible rfl)
     try simp only [Act.put, List.setIfInBounds_toArray, List.set_cons_zero, List.set_cons_succ]
     refine' wpAnyH_take (i := 3) (oi := { dst := some 28, op := Op.load 26 (Operand.tmp 27), type := 26, pos := "steps.go:22", after := #[{ on := 2, ground := Ground.data }], guard := none }) (v := _) rfl (by kernel_rfl) (by kernel_rfl) (by kernel_rfl) (fun _ _ _ h => h) (ld_cell (by rfl) 26 _ Tryz.underlying26 rfl _ rfl g 1 rfl _ (fun w' hw => HPD.out w' hw)) (by assumption) ?_
     try simp only [Act.put, List.setIfInBounds_toArray, List.set_cons_zero, List.set_cons_succ]
     refine wpAnyH_take (i := 4) (oi := { dst := some 29, op := Op.fieldAddr 188 (Operand.tmp 6) 0, type := 0, pos := "steps.go:22", after := #[], guard := none }) (v := ?_) rfl (by kernel_rfl) (by kernel_rfl) (by kernel_rfl) (fun _ _ _ h => h) (Or.inl ⟨by rfl, ?_⟩) (by assumption) ?_
     rotate_left
     ·(intro w' hSw; go_simp; try with_reducible rfl)
     try simp only [Act.put, List.setIfInBounds_toArray, List.set_cons_zero, List.set_cons_succ]
     refine wpAnyH_take (i := 5) (oi := { dst := some 30, op := Op.fieldAddr 92 (Operand.tmp 29) 0, type := 0, pos := "steps.go:22", after := #[{ on := 4, ground := Ground.data }], guard := none }) (v := ?_) rfl (by kernel_rfl) (by kernel_rfl) (by kernel_rfl) (fun _ _ _ h => h) (Or.inl ⟨by rfl, ?_⟩) (by assumption) ?_
     rotate_left
     ·(intro w' hSw; go_simp; try with_reducible rfl)
     try simp only [Act.put, List.setIfInBounds_toArray, List.set_cons_zero, List.set_cons_succ]
     refine' wpAnyH_take (i := 6) (oi := { dst := some 31, op := Op.load 3 (Operand.tmp 30), type := 3, pos := "steps.go:22", after := #[{ on := 5, ground := Ground.data }], guard := none }) (v := _) rfl (by kernel_rfl) (by kernel_rfl) (by kernel_rfl) (fun _ _ _ h => h) (ld_cell (by rfl) 3 _ Tryz.underlying3 rfl _ rfl wr.heap.size 0 rfl _ (fun w' hw => (HPT.out w' hw).1)) (by assumption) ?_
     try simp only [Act.put, List.setIfInBounds_toArray, List.set_cons_zero, List.set_cons_succ]
     refine wpAnyH_take (i := 7) (oi := { dst := some 32, op := Op.fieldAddr 188 (Operand.tmp 6) 0, type := 0, pos := "steps.go:22", after := #[], guard := none }) (v := ?_) rfl (by kernel_rfl) (by kernel_rfl) (by kernel_rfl) (fun _ _ _ h => h) (Or.inl ⟨by rfl, ?_⟩) (by assumption) ?_
     rotate_left
     ·(intro w' hSw; go_simp; try with_reducible rfl)
     try simp only [Act.put, List.setIfInBounds_toArray, List.set_cons_zero, List.set_cons_succ]
     refine wpAnyH_take (i := 8) (oi := { dst := some 33, op := Op.fieldAddr 92 (Operand.tmp 32) 1, type := 0, pos := "steps.go:22", after := #[{ on := 7, ground := Ground.data }], guard := none }) (v := ?_) rfl (by kernel_rfl) (by kernel_rfl) (by kernel_rfl) (fun _ _ _ h => h) (Or.inl ⟨by rfl, ?_⟩) (by assumption) ?_
     rotate_left
     ·(intro w' hSw; go_simp; try with_reducible rfl)
     try simp only [Act.put, List.setIfInBounds_toArray, List.set_cons_zero, List.set_cons_succ]
     refine' wpAnyH_take (i := 9) (oi := { dst := some 34, op := Op.load 84 (Operand.tmp 33), type := 84, pos := "steps.go:22", after := #[{ on := 8, ground := Ground.data }], guard := none }) (v := _) rfl (by kernel_rfl) (by kernel_rfl) (by kernel_rfl) (fun _ _ _ h => h) (ld_sec (by rfl) _ rfl wr.heap.size 1 rfl x.s HX.out.1.1 (fun w' hw => (HPT.out w' hw).2.1)) (by assumption) ?_
     try simp only [Act.put, List.setIfInBounds_toArray, List.set_cons_zero, List.set_cons_succ]
     refine wpAnyH_take (i := 10) (oi := { dst := some 35, op := Op.fieldAddr 188 (Operand.tmp 6) 0, type := 0, pos := "steps.go:22", after := #[], guard := none }) (v := ?_) rfl (by kernel_rfl) (by kernel_rfl) (by kernel_rfl) (fun _ _ _ h => h) (Or.inl ⟨by rfl, ?_⟩) (by assumption) ?_
     rotate_left
     ·(intro w' hSw; go_simp; try with_reducible rfl)
     try simp only [Act.put, List.setIfInBounds_toArray, List.set_cons_zero, List.set_cons_succ]
     refine wpAnyH_take (i := 11) (oi := { dst := some 36, op := Op.fieldAddr 92 (Operand.tmp 35) 2, type := 0, pos := "steps.go:22", after := #[{ on := 10, ground := Ground.data }], guard := none }) (v := ?_) rfl (by kernel_rfl) (by kernel_rfl) (by kernel_rfl) (fun _ _ _ h => h) (Or.inl ⟨by rfl, ?_⟩) (by assumption) ?_
     rotate_left
     ·(intro w' hSw; go_simp; try with_reducible rfl)
     try simp only [Act.put, List.setIfInBounds_toArray, List.set_cons_zero, List.set_cons_succ]
     refine' wpAnyH_take (i := 12) (oi := { dst := some 37, op := Op.load 90 (Operand.tmp 36), type := 90, pos := "steps.go:22", after := #[{ on := 11, ground := Ground.data }], guard := none }) (v := _) rfl (by kernel_rfl) (by kernel_rfl) (by kernel_rfl) (fun _ _ _ h => h) (ld_tag (by rfl) _ rfl wr.heap.size 33 rfl x.kind x.id (fun w' hw => (HPT.out w' hw).2.2)) (by assumption) ?_
     try simp only [Act.put, List.setIfInBounds_toArray, List.set_cons_zero, List.set_cons_succ]
     refine wpAnyH_ready (rs := [13]) (by kernel_rfl) (by simp) ?_
     refine AllReadyH.cons (o := { dst := some 38, op := Op.call { callee := Callee.value (Operand.func 181), args := #[Operand.tmp 28, Operand.tmp 31, Operand.tmp 34, Operand.tmp 37], argTypes := #[26, 3, 84, 90] }, type := 27, pos := "steps.go:22", after := #[{ on := 3, ground := Ground.data }, { on := 6, ground := Ground.data }, { on := 9, ground := Ground.data }, { on := 12, ground := Ground.data }], guard := none }) rfl (fun K hK => ?_) AllReadyH.nil
     go_simp
     refine (HC.out _ ((Below.refl w3.heap.size w3).drew)).mono ?_
     rintro e v1 ⟨rfl, hc1, ht1⟩
     have HC1 := Lib.hid hc1
     have h1 := ht1
     clear hc1
     dsimp only
     refine hK.out _ _ ?_ (fun hHeld => ?_)
     ·exact h1
     clear hK K
     try simp only [Act.put, List.setIfInBounds_toArray, List.set_cons_zero, List.set_cons_succ]
     refine wpAnyH_take (i := 14) (oi := { dst := some 8, op := Op.assign (Operand.tmp 38), type := 27, pos := "steps.go:22", after := #[{ on := 13, ground := Ground.data }, { on := 13, ground := Ground.chain }, { on := 0, ground := Ground.phase }, { on := 1, ground := Ground.phase }, { on := 2, ground := Ground.phase }, { on := 3, ground := Ground.phase }, { on := 4, ground := Ground.phase }, { on := 5, ground := Ground.phase }, { on := 6, ground := Ground.phase }, { on := 7, ground := Ground.phase }, { on := 8, ground := Ground.phase }, { on := 9, ground := Ground.phase }, { on := 10, ground := Ground.phase }, { on := 11, ground := Ground.phase }, { on := 12, ground := Ground.phase }, { on := 13, ground := Ground.phase }], guard := none }) (v := ?_) rfl (by kernel_rfl) (by kernel_rfl) (by kernel_rfl) (fun _ _ _ h => h) (Or.inl ⟨by rfl, ?_⟩) (by assumption) ?_
     rotate_left
     ·(intro w' hSw; go_simp; try with_reducible rfl)
     try simp only [Act.put, List.setIfInBounds_toArray, List.set_cons_zero, List.set_cons_succ]
     refine wpAnyH_done (by kernel_rfl) ?_ _
     have TV : Hid (dsk.Touch F w3 v1) := Lib.hid ⟨h1.os, h1.tape, h1.output, h1.size, h1.block⟩
     have HB3 : Hid (dsk.Touch G w v1) := Lib.hid (T2.out.trans' TV.out HFG.out)
     have HA3 : Hid (FsAt v1 (grow G w v1) g d s1) := Lib.hid ⟨F1.out.touch TV.out HNA.out, ca_wide HC1.out (fun b hb => by
      have q1 := T2.out.size
      have q2 : w3.heap.size ≤ v1.heap.size := TV.out.size
      rcases hb with hb | hb
      ·rcases HFG2.out b hb with hb | hb
       ·exact Or.inl hb
       ·exact Or.inr ⟨hb.1, by omega⟩
      ·exact Or.inr ⟨by have : w3.heap.size ≤ b := hb.1; omega, hb.2⟩), fun hh => by
       have := HGL.out
       rcases hh with h1 | h1
       ·exact HAP.out h1
       ·omega⟩
     by_cases he : e1 = 0
     ·subst he
      have HD3 : Hid (runV st xs = runV s1 (xs.drop (i + 1))) := Lib.hid (by rw [HDO.out, if_neg (by simp)])
      go_wp2_with fail
      go_roundw
      case rel => exact ⟨i + 1, s1, by omega, by go_num, HD3, Lib.hid (good_lift HGN.out (by omega)), HA3, HB3⟩
      case measure => simp [intOf]; omega
     ·have hne : (e1 != 0) = true := by simpa using he
      have HD3 : Hid (runV st xs = (e1, s1)) := Lib.hid (by rw [HDO.out, if_pos he])
      go_wp2_with fail
      go_ret
      exact ⟨by rw [HD3.out]; rfl, by rw [HD3.out]; exact HA3.out, HB3.out⟩
    ·have hne : (e0 != 0) = true := by simpa using he0
     have HD3 : Hid (runV st xs = (e0, s0)) := Lib.hid (by rw [HDO.out, if_pos he0])
     have HAP2 := HAP.out
     have HGL2 := HGL.out
     go_wp2_with fail
     go_ret
     exact ⟨by rw [HD3.out]; rfl, by rw [HD3.out]; exact ⟨F3.out, ca_wide C3.out HFG3.out, fun hh => by
      rcases hh with h1 | h1
      ·exact HAP2 h1
      ·omega⟩, T4.out⟩
  ·have hge : (m : Int) ≤ i := by omega
   have HE : Hid (runV st xs = (0, sj)) := Lib.hid (by rw [HD.out, List.drop_of_length_le (by rw [HLL.out]; omega)]; rfl)
   go_wp2_with fail
   go_ret
   exact ⟨by rw [HE.out]; rfl, by rw [HE.out]; exact HA.out, HT.out⟩
theorem fsAt_narrow {w : World} {G : Nat → Prop} {g : Nat} {d : Value} {st : St} (h : FsAt w G g d st) : FsAt w (fun b => G b ∧ b < w.heap.size) g d st := ⟨h.row, dsk.CA.narrow h.code, fun hh => h.apart hh.1⟩
theorem pdone_wide {G : Nat → Prop} {g : Nat} {d : Value} {w w' : World} {r : Int × St} {e : Ending} (hg : g < w.heap.size) (hG : ¬ G g) (h : PDone (fun b => G b ∧ b < w.heap.size) g d w r e w') : PDone G g d w r e w' :=
 ⟨h.1, fsAt_wide h.2.1 (fun b hb => hb.imp (fun h => h.1) id) (fun hh => by
  rcases hh with h1 | h1
  ·exact hG h1
  ·omega), h.2.2.mono fun b hb => hb.1⟩
theorem fperform (G : Nat → Prop) (g : Nat) (d : Value) (st : St) (xs : List (Wr × Bool)) (p : Option Addr) (m c : Nat) (w : World) (h : FsAt w G g d st) (k : Nat) (hg : st.good k) (hk : k + 2 * m ≤ 900) (hm : m ≤ 10) (hr : Rd w 37 (.slice p m c) m (stsC xs)) (hin : InS (fun b => ¬ G b) (.slice p m c)) (hok : ∀ x ∈ xs, x.1.ok) :
  Calls Tryz.prog 129 #[.pointer (some ⟨g, 0, none⟩), .slice p m c] w (PDone G g d w (runV st xs)) :=
 (fperform_at _ g d st xs p m c w (fun b hb => hb.2) (fsAt_narrow h) k hg hk hm hr (fun a n c' h1 h2 hh => hin a n c' h1 h2 hh.1) hok).mono fun e w' hd => pdone_wide h.row.lt h.apart hd
end fs
namespace fs
set_option maxRecDepth 100000
open Go.ChangeShapes Go.WideShapes Go.ChangeAt Go.RowKit
open rows
open sec
open dsk (cell_row frozen_row setCell_heap size_alloc Wr.ok Wr.c ld_cell)
open ly
open pa
open lk
open al
theorem step_store_int {w : World} {ops : Array Oper} {o : Oper} {a : Act} {K : Act → World → Prop} {Q : Exit → Act → World → Prop} {F : Prop} (hw : Region.wanted o (yielded ops a.tmps) = true) (x y : Operand) (ho : o.op = .store 3 x y)
  (b off : Nat) (hx : a.eval x = .pointer (some ⟨b, off, none⟩)) (z : Int) (hy : a.eval y = .int .i64 z) (u : Value) (hc : w.cell? ⟨b, off, none⟩ = some u) (hf : w.frozen? ⟨b, off, none⟩ = false)
  (h : K (a.put o.dst undef) (w.setCell ⟨b, off, none⟩ (.int .i64 z))) : if Region.wanted o (yielded ops a.tmps) = true then Oper.wp Tryz.prog o a w K Q else F := by
 rw [if_pos hw]
 have hs := run_storeCells_cells (P := Tryz.prog) b off [.int .i64 z] 0 w (fun j hj => by
  obtain rfl : j = 0 := by simpa using hj
  simp [hc]) (fun j hj => by
  obtain rfl : j = 0 := by simpa using hj
  simpa using hf) (fun v hv => by simp at hv; subst hv; rfl)
 have hi : (Tryz.prog.info? 3).map (·.size) = some 1 := by kernel_rfl
 have hv : (storeVar 3 ⟨b, off, none⟩ (.int .i64 z)).run Tryz.prog w = .ok () (w.setCell ⟨b, off, none⟩ (.int .i64 z)) := by
  cases hq : Tryz.prog.info? 3 with
  | none => simp [hq] at hi
  | some i =>
   have hsz : i.size = 1 := by simpa [hq] using hi
   simp only [Nat.add_zero] at hs
   simp [storeVar, sizeOf, typeInfo, hq, Value.cells, hsz, hs]
   rfl
 unfold Oper.wp execOp
 simp only [ho, hx, hy, Instr.storeAt, Instr.sureAddr, Sem.run_bind, Sem.run_pure, Result.andThen_ok, hv]
 exact h
structure Plc where
 dir : Int
 name : ByteArray
 is : Bool
 k : Int
 tg : Int
def plc0 : Plc := ⟨0, ByteArray.empty, false, 0, 0⟩
abbrev Plc.c (x : Plc) : Array Value := #[.int .i64 x.dir, .string x.name, .bool x.is, .int .i64 x.k, .int .i64 x.tg]
abbrev aggP (x : Plc) : Value := .agg x.c
def plcOf (ss : List (List Int)) (x : Spot) : Plc := ⟨x.dir, x.name, x.is, x.k, if x.is then (entAt ss x.k).target else 0⟩
theorem info_plc : (Tryz.prog.info? 156).map (·.size) = some 5 := by kernel_rfl
def AtP (w : World) (g : Nat) (x : Plc) : Prop := w.heap[g]? = some (.cells x.c 156 (0, 0))
theorem AtP.lt {w : World} {g : Nat} {x : Plc} (h : AtP w g x) : g < w.heap.size := (Array.getElem?_eq_some_iff.1 h).1
theorem AtP.later {w w' : World} {g : Nat} {x : Plc} (h : AtP w g x) (k : Below w.heap.size w w') : AtP w' g x := (k.block g h.lt).trans h
theorem AtP.touch {S : Nat → Prop} {w w' : World} {g : Nat} {x : Plc} (h : AtP w g x) (ht : dsk.Touch S w w') (hg : ¬ S g) : AtP w' g x := (ht.block g h.lt hg).trans h
theorem atP_new (w : World) (x : Plc) : AtP (w.alloc (.cells x.c 156)) w.heap.size x := heap_alloc_new _ _
theorem atP_lit (w : World) : AtP (w.alloc (.cells #[.int .i64 0, .string { data := #[] }, .bool false, .int .i64 0, .int .i64 0] 156)) w.heap.size plc0 := heap_alloc_new _ _
theorem AtP.cell0 {w : World} {g : Nat} {x : Plc} (h : AtP w g x) : w.cell? ⟨g, 0, none⟩ = some (.int .i64 x.dir) := cell_row h 0 _ rfl
theorem AtP.cell1 {w : World} {g : Nat} {x : Plc} (h : AtP w g x) : w.cell? ⟨g, 1, none⟩ = some (.string x.name) := cell_row h 1 _ rfl
theorem AtP.cell2 {w : World} {g : Nat} {x : Plc} (h : AtP w g x) : w.cell? ⟨g, 2, none⟩ = some (.bool x.is) := cell_row h 2 _ rfl
theorem AtP.cell3 {w : World} {g : Nat} {x : Plc} (h : AtP w g x) : w.cell? ⟨g, 3, none⟩ = some (.int .i64 x.k) := cell_row h 3 _ rfl
theorem AtP.cell4 {w : World} {g : Nat} {x : Plc} (h : AtP w g x) : w.cell? ⟨g, 4, none⟩ = some (.int .i64 x.tg) := cell_row h 4 _ rfl
theorem AtP.setIs {w : World} {g : Nat} {x : Plc} (h : AtP w g x) (b : Bool) : AtP (w.setCell ⟨g, 2, none⟩ (.bool b)) g {x with is := b} := setCell_heap h _
theorem AtP.setK {w : World} {g : Nat} {x : Plc} (h : AtP w g x) (z : Int) : AtP (w.setCell ⟨g, 3, none⟩ (.int .i64 z)) g {x with k := z} := setCell_heap h _
theorem AtP.setT {w : World} {g : Nat} {x : Plc} (h : AtP w g x) (z : Int) : AtP (w.setCell ⟨g, 4, none⟩ (.int .i64 z)) g {x with tg := z} := setCell_heap h _
theorem AtP.other {w : World} {g k j : Nat} {x : Plc} (h : AtP w k x) (hk : k ≠ g) (v : Value) : AtP (w.setCell ⟨g, j, none⟩ v) k x := (Below.heap_setCell _ _ _ _ hk).trans h
theorem store_plc {ops : Array Oper} {rest : List Oper} {o : Oper} {a : Act} {w : World} {Q : Exit → Act → World → Prop} (hgd : o.guard = none) (p y : Operand) (ho : o.op = .store 156 p y) (hd : o.dst = none)
  (g : Nat) (x old : Plc) (hp : a.eval p = .pointer (some ⟨g, 0, none⟩)) (hy : a.eval y = aggP x) (hg : AtP w g old)
  (h : ∀ w', AtP w' g x → Below g w w' → wpList Tryz.prog ops Q rest a w') : wpList Tryz.prog ops Q (o :: rest) a w := by
 refine wpList_store_row hgd 156 p y ho g x.c hp hy 156 _ hg (by rw [info_plc]; rfl) rfl (by simp [Plc.c, Value.oneCell']) ?_
 rw [hd]
 exact h _ (setRow_heap w g _ _ _ _ hg) ((Below.refl g w).trans ⟨rfl, rfl, rfl, by simp [World.setRow], fun k hk => setRow_other w g k _ (by omega)⟩)
theorem load_plc {ops : Array Oper} {rest : List Oper} {o : Oper} {a : Act} {w : World} {Q : Exit → Act → World → Prop} (hgd : o.guard = none) (p : Operand) (ho : o.op = .load 156 p)
  (g : Nat) (hp : a.eval p = .pointer (some ⟨g, 0, none⟩)) (x : Plc) (hg : AtP w g x)
  (h : wpList Tryz.prog ops Q rest (a.put o.dst (aggP x)) w) : wpList Tryz.prog ops Q (o :: rest) a w :=
 wpList_load_row hgd 156 p ho g hp 156 _ _ _ hg Tryz.underlying156 rfl (by rw [info_plc]; rfl) h
theorem AtP.range {w : World} {g : Nat} {x : Plc} (h : AtP w g x) : w.rangeAt g 0 x.c.toList := by
 have := World.rangeAt_of_block h 0 5
 simpa using this
theorem ld_plc {ops : Array Oper} {S : World → Prop} {op : Oper} {a : Act} (hw : Region.wanted op (yielded ops a.tmps) = true) (y : Operand) (ho : op.op = .load 156 y)
  (g : Nat) (hx : a.eval y = .pointer (some ⟨g, 0, none⟩)) (x : Plc) (hS : ∀ w, S w → AtP w g x) : YieldsIf Tryz.prog ops S op (aggP x) a :=
 yieldsIf_load_mid hw 156 y ho g 0 hx x.c.toList _ (fun w hw => (hS w hw).range) Tryz.underlying156 rfl (by rw [info_plc]; rfl)
theorem ret_plc2 {fn : Func} {p q : Tmp} {R : Ending → World → Prop} {a : Act} {w : World} (h : fn.results = #[.cell p 156, .tmp q]) (g : Nat) (x : Plc) (v : Value) (hp : a.tmps.getD p undef = .pointer (some ⟨g, 0, none⟩)) (hq : a.tmps.getD q undef = v) (hg : AtP w g x)
  (hd : a.defers = []) (hR : R (.returned (.tuple #[aggP x, v])) w) : bodyPost Tryz.prog fn R .ret a w := by
 refine bodyPost_ret (v := .tuple #[aggP x, v]) ?_ hd hR
 have hp' : a.tmps[p]?.getD undef = .pointer (some ⟨g, 0, none⟩) := by simpa using hp
 have hq' : a.tmps[q]?.getD undef = v := by simpa using hq
 have hl := run_loadVar_row (P := Tryz.prog) w g _ 156 _ _ _ hg Tryz.underlying156 rfl (by rw [info_plc]; rfl)
 simp [results, h, hp', hq', asAddr, hl]
set_option maxRecDepth 100000 in
set_option maxHeartbeats 1600000 in
theorem fentry (x : Plc) (t : Int) (w : World) : Calls Tryz.prog 151 #[aggP x, .int .i64 t] w fun e w' => e = .returned (aggE ⟨true, x.dir, x.name, t⟩) ∧ Below w.heap.size w w' := by
 have a0 : AtP ((w.alloc (.cells x.c 156)).alloc (.cells #[.bool false, .int .i64 0, .string { data := #[] }, .int .i64 0] 126)) w.heap.size x := (atP_new w x).later (below_alloc (Below.refl _ _) _)
 have a2 := atE_lit (w.alloc (.cells x.c 156))
 rw [World.size_alloc] at a2
 have hbw := below_alloc (below_alloc (Below.refl w.heap.size w) (.cells x.c 156)) (.cells #[.bool false, .int .i64 0, .string { data := #[] }, .int .i64 0] 126)
 obtain ⟨W, hW⟩ : ∃ W, (w.alloc (.cells x.c 156)).alloc (.cells #[.bool false, .int .i64 0, .string { data := #[] }, .int .i64 0] 126) = W := ⟨_, rfl⟩
 rw [hW] at hbw a0 a2
 have HB0 := Lib.hid hbw
 have c0 := a0.cell0
 have c1 := a0.cell1
 have A2 := Lib.hid a2
 clear hbw a0 a2
 go_enter Tryz.func151, Tryz.ntmps151
 go_upto_region 1 with fail
 try rw [hW]
 clear hW
 go_wp2_with (refine store_ent rfl (.tmp 4) (.tmp 10) rfl rfl (w.heap.size + 1) ⟨true, x.dir, x.name, t⟩ ent0 rfl rfl A2.out ?_; intro w5 hA hB _; have X5 := Lib.hid hA; have B5 := Lib.hid (HB0.out.trans (hB.mono (show w.heap.size ≤ w.heap.size + 1 by omega))); clear hA hB)
 exact ret_ent1 rfl (w.heap.size + 1) ⟨true, x.dir, x.name, t⟩ rfl X5.out rfl ⟨rfl, B5.out⟩
set_option maxRecDepth 100000 in
set_option maxHeartbeats 3200000 in
theorem flocate (w : World) (g : Nat) (d : Value) (ss : List (List Int)) (s : ByteArray) (h : FK w g d ss) (hm : Mx w) (hsz : s.size ≤ 100000) :
  Calls Tryz.prog 95 #[.pointer (some ⟨g, 0, none⟩), .string s] w fun e w' => e = .returned (.tuple #[aggP (plcOf ss (placeV ss s).1), .int .i64 (placeV ss s).2]) ∧ Below w.heap.size w w' := by
 have HK := Lib.hid h
 have HM := Lib.hid fun w' (hb : Below w.heap.size w w') => fmade g w' (h.row.later hb).self
 have HP := Lib.hid fun w' (hb : Below w.heap.size w w') => parent_is s w' (hm.later hb) hsz
 have HL := Lib.hid fun w' (hb : Below w.heap.size w w') => lookup_any w' d ss (strOfNums (parL (bys s))) (hm.later hb) (h.dk.later hb) (by rw [strOfNums_size]; have := parL_len (bys s); omega)
 obtain ⟨hz0, hz1⟩ := lookV_fine h.dk.secs.1 (bys (strOfNums (parL (bys s))))
 have HI := Lib.hid fun w' (hb : Below w.heap.size w w') => fisfolder w' g d ss (lookV ss (bys (strOfNums (parL (bys s))))).1 (h.later hb) (wf_byte (by omega))
 have HF := Lib.hid fun w' (hb : Below w.heap.size w w') => find_any w' d ss (lookV ss (bys (strOfNums (parL (bys s))))).1 (strOfNums (lastL (bys s))) (h.dk.later hb)
 have HE := Lib.hid fun (k : Nat) (hk : k < 24) w' (hb : Below w.heap.size w w') => cent_any w' d ss (k : Int) (h.dk.later hb) (wf_byte (by omega))
 obtain ⟨V, HV⟩ : ∃ V, placeV ss s = V := ⟨_, rfl⟩
 rw [HV]
 unfold placeV at HV
 unfold lookT at HL
 generalize lookV ss (bys (strOfNums (parL (bys s)))) = lv at *
 obtain ⟨z, e2⟩ := lv
 simp only at HL HI HF HV hz0 hz1
 generalize errP (bys s) = e1 at *
 generalize strOfNums (lastL (bys s)) = nm at *
 generalize strOfNums (parL (bys s)) = up at *
 obtain ⟨kd, hkd⟩ : ∃ kd, (inoAt ss z).kind = kd := ⟨_, rfl⟩
 rw [hkd] at HI HV
 obtain ⟨W1, hW1⟩ : ∃ W1, w.alloc (.cells #[.int .i64 0, .string { data := #[] }, .bool false, .int .i64 0, .int .i64 0] 156) = W1 := ⟨_, rfl⟩
 have A1 : Hid (AtP W1 w.heap.size plc0) := Lib.hid (by rw [← hW1]; exact heap_alloc_new _ _)
 have B1 : Hid (Below w.heap.size w W1) := Lib.hid (by rw [← hW1]; exact below_alloc (Below.refl _ _) _)
 have HGW := Lib.hid h.row.lt
 clear h hm hsz hkd hz0 hz1
 by_cases he1 : e1 = 0
 ·subst he1
  rw [if_neg (by simp)] at HV
  by_cases he2 : e2 = 0
  ·subst he2
   rw [if_neg (by simp)] at HV
   by_cases hk : kd = 2
   ·subst hk
    rw [if_neg (by simp)] at HV
    have HI2 : Hid (∀ w', Below w.heap.size w w' → Calls Tryz.prog 96 #[.pointer (some ⟨g, 0, none⟩), .int .i64 z] w' fun e w'' => e = .returned (.bool true) ∧ Below w'.heap.size w' w'') := Lib.hid fun w' hb => HI.out w' hb
    clear HI
    cases hfo : findO ss z nm with
    | none =>
     rw [hfo, optV_none] at HF
     rw [hfo] at HV
     subst HV
     go_enter Tryz.func95, Tryz.ntmps95
     go_upto_region 1 with fail
     clear hW1
     go_upto_region 12 with (first
      | (go_at_call 89; refine (HM.out _ B1.out).mono ?_; rintro e wm ⟨rfl, hwm⟩; obtain rfl := hwm)
      | (go_at_call 94; refine (HP.out _ B1.out).mono ?_; rintro e w2 ⟨rfl, hb⟩; have B2 := Lib.hid (below_trans B1.out hb); have A2 := Lib.hid (A1.out.later hb); have c2 := (HK.out.later B2.out).row.disk; clear hb)
      | (go_at_call 49; refine (HL.out _ B2.out).mono ?_; rintro e w3 ⟨rfl, hb⟩; have B3 := Lib.hid (below_trans B2.out hb); have A3 := Lib.hid (A2.out.later hb); clear hb)
      | (go_at_call 96; refine (HI2.out _ B3.out).mono ?_; rintro e w4 ⟨rfl, hb⟩; have B4 := Lib.hid (below_trans B3.out hb); have A4 := Lib.hid (A3.out.later hb); clear hb)
      | (refine store_plc rfl (.tmp 10) (.tmp 45) rfl rfl w4.heap.size ⟨z, nm, false, 0, 0⟩ plc0 rfl rfl (atP_lit w4) ?_; intro w5 hA hB; have hb := (below_alloc (Below.refl _ w4) _).trans hB; have B5 := Lib.hid (below_trans B4.out hb); have A5 := Lib.hid (A4.out.later hb); have P5 := Lib.hid hA; clear hA hB hb))
     have c5 := (HK.out.later B5.out).row.disk
     go_upto_region 13 with (go_at_call 116; refine (HF.out _ B5.out).mono ?_; rintro e w6 ⟨rfl, hb⟩; have B6 := Lib.hid (below_trans B5.out hb); have A6 := Lib.hid (A5.out.later hb); have P6 := Lib.hid (P5.out.later hb); clear hb; have q3 := P6.out.cell3; have f3 := frozen_row P6.out 3; have q2 := (P6.out.setK 0).cell2; have f2 := frozen_row (P6.out.setK 0) 2)
     have hgb : w.heap.size ≠ w4.heap.size := by have := A4.out.lt; omega
     have P8 := (P6.out.setK 0).setIs false
     have A8 := (A6.out.other hgb (j := 3) (.int .i64 0)).other hgb (j := 2) (.bool false)
     have B8 := (B6.out.setCell (p := ⟨w4.heap.size, 3, none⟩) B4.out.size (.int .i64 0)).setCell (p := ⟨w4.heap.size, 2, none⟩) B4.out.size (.bool false)
     generalize (w6.setCell ⟨w4.heap.size, 3, none⟩ (.int .i64 0)).setCell ⟨w4.heap.size, 2, none⟩ (.bool false) = w8 at *
     have P8 : Hid (AtP w8 w4.heap.size ⟨z, nm, false, 0, 0⟩) := Lib.hid P8
     have A8 := Lib.hid A8
     have B8 := Lib.hid B8
     have q8 := P8.out.cell2
     go_wp2_with (first | (refine load_plc rfl (.tmp 10) rfl w4.heap.size rfl ⟨z, nm, false, 0, 0⟩ P8.out ?_) | (refine store_plc rfl (.tmp 4) (.tmp 69) rfl rfl w.heap.size ⟨z, nm, false, 0, 0⟩ plc0 rfl rfl A8.out ?_; intro w9 hA hB; have A9 := Lib.hid hA; have B9 := Lib.hid (B8.out.trans hB); clear hA hB))
     exact ret_plc2 rfl w.heap.size ⟨z, nm, false, 0, 0⟩ (.int .i64 0) rfl rfl A9.out rfl ⟨rfl, B9.out⟩
    | some k =>
     rw [hfo, optV_some] at HF
     rw [hfo] at HV
     subst HV
     have hk24 := findO_lt hfo
     have HEk := Lib.hid (HE.out k hk24)
     have hf3 := fieldE3 (entAt ss (k : Int))
     obtain ⟨R, hR⟩ : ∃ R, (Ending.returned (.tuple #[aggP (plcOf ss ⟨z, nm, (k : Int), true⟩), .int .i64 0])) = R := ⟨_, rfl⟩
     have HR : Hid (R = .returned (.tuple #[aggP ⟨z, nm, true, (k : Int), (entAt ss (k : Int)).target⟩, .int .i64 0])) := Lib.hid hR.symm
     change Calls _ _ _ _ fun e w' => e = (Ending.returned (.tuple #[aggP (plcOf ss ⟨z, nm, (k : Int), true⟩), .int .i64 0])) ∧ _
     rw [hR]
     generalize (entAt ss (k : Int)).target = tg at *
     generalize aggE (entAt ss (k : Int)) = xv at *
     clear hfo hR
     go_enter Tryz.func95, Tryz.ntmps95
     go_upto_region 1 with fail
     clear hW1
     go_upto_region 12 with (first
      | (go_at_call 89; refine (HM.out _ B1.out).mono ?_; rintro e wm ⟨rfl, hwm⟩; obtain rfl := hwm)
      | (go_at_call 94; refine (HP.out _ B1.out).mono ?_; rintro e w2 ⟨rfl, hb⟩; have B2 := Lib.hid (below_trans B1.out hb); have A2 := Lib.hid (A1.out.later hb); have c2 := (HK.out.later B2.out).row.disk; clear hb)
      | (go_at_call 49; refine (HL.out _ B2.out).mono ?_; rintro e w3 ⟨rfl, hb⟩; have B3 := Lib.hid (below_trans B2.out hb); have A3 := Lib.hid (A2.out.later hb); clear hb)
      | (go_at_call 96; refine (HI2.out _ B3.out).mono ?_; rintro e w4 ⟨rfl, hb⟩; have B4 := Lib.hid (below_trans B3.out hb); have A4 := Lib.hid (A3.out.later hb); clear hb)
      | (refine store_plc rfl (.tmp 10) (.tmp 45) rfl rfl w4.heap.size ⟨z, nm, false, 0, 0⟩ plc0 rfl rfl (atP_lit w4) ?_; intro w5 hA hB; have hb := (below_alloc (Below.refl _ w4) _).trans hB; have B5 := Lib.hid (below_trans B4.out hb); have A5 := Lib.hid (A4.out.later hb); have P5 := Lib.hid hA; clear hA hB hb))
     have c5 := (HK.out.later B5.out).row.disk
     go_upto_region 13 with (go_at_call 116; refine (HF.out _ B5.out).mono ?_; rintro e w6 ⟨rfl, hb⟩; have B6 := Lib.hid (below_trans B5.out hb); have A6 := Lib.hid (A5.out.later hb); have P6 := Lib.hid (P5.out.later hb); clear hb; have q3 := P6.out.cell3; have f3 := frozen_row P6.out 3; have q2 := (P6.out.setK (k : Int)).cell2; have f2 := frozen_row (P6.out.setK (k : Int)) 2)
     have hgb : w.heap.size ≠ w4.heap.size := by have := A4.out.lt; omega
     have P8 := (P6.out.setK (k : Int)).setIs true
     have A8 := (A6.out.other hgb (j := 3) (.int .i64 (k : Int))).other hgb (j := 2) (.bool true)
     have B8 := (B6.out.setCell (p := ⟨w4.heap.size, 3, none⟩) B4.out.size (.int .i64 (k : Int))).setCell (p := ⟨w4.heap.size, 2, none⟩) B4.out.size (.bool true)
     generalize (w6.setCell ⟨w4.heap.size, 3, none⟩ (.int .i64 (k : Int))).setCell ⟨w4.heap.size, 2, none⟩ (.bool true) = w8 at *
     have P8 : Hid (AtP w8 w4.heap.size ⟨z, nm, true, (k : Int), 0⟩) := Lib.hid P8
     have A8 := Lib.hid A8
     have B8 := Lib.hid B8
     have q8 := P8.out.cell2
     go_upto_region 14 with fail
     have hgg : g ≠ w4.heap.size := by have := HGW.out; have := B4.out.size; omega
     have F8 := Lib.hid (HK.out.later B8.out).row
     have HBd : Hid (∀ v, dsk.Touch (fun b => b = w4.heap.size) w8.drew v → Below w.heap.size w v) := Lib.hid fun v hv => B8.out.trans ((Below.refl w.heap.size w8).drew.trans (hv.below B8.out.size (fun i hi => by subst hi; exact B4.out.size)))
     have HFd : Hid (∀ v, dsk.Touch (fun b => b = w4.heap.size) w8.drew v → v.cell? ⟨g, 1, none⟩ = some d) := Lib.hid fun v hv => (FR.touch (w := w8.drew) F8.out hv hgg).disk
     have h0 : dsk.Touch (fun b => b = w4.heap.size) w8.drew w8.drew ∧ ∃ t, AtP w8.drew w4.heap.size ⟨z, nm, true, (k : Int), t⟩ := ⟨dsk.Touch.refl _ _, 0, P8.out⟩
     clear q3 f3 q2 f2 q8 c5 c2
     refine wp_region_held_drew (S := fun v => dsk.Touch (fun b => b = w4.heap.size) w8.drew v ∧ ∃ t, AtP v w4.heap.size ⟨z, nm, true, (k : Int), t⟩) (by kernel_rfl) h0 (fun hH0 => ?_)
     refine wpAnyH_take (i := 0) (oi := { dst := some 60, op := Op.move (Operand.tmp 0), type := 33, pos := "sfs.go:79", after := #[], guard := none }) (v := ?_) rfl (by kernel_rfl) (by kernel_rfl) (by kernel_rfl) (fun _ _ _ h => h) (Or.inl ⟨by rfl, ?_⟩) (by assumption) ?_
     rotate_left
     ·(intro w' hSw; go_simp; try with_reducible rfl)
     try simp only [Act.put, List.setIfInBounds_toArray, List.set_cons_zero, List.set_cons_succ]
     refine wpAnyH_take (i := 1) (oi := { dst := some 61, op := Op.nilCheck (Operand.tmp 60), type := 0, pos := "sfs.go:79", after := #[{ on := 0, ground := Ground.data }], guard := none }) (v := ?_) rfl (by kernel_rfl) (by kernel_rfl) (by kernel_rfl) (fun _ _ _ h => h) (Or.inl ⟨by rfl, ?_⟩) (by assumption) ?_
     rotate_left
     ·(intro w' hSw; go_simp; try with_reducible rfl)
     try simp only [Act.put, List.setIfInBounds_toArray, List.set_cons_zero, List.set_cons_succ]
     refine wpAnyH_take (i := 2) (oi := { dst := some 62, op := Op.fieldAddr 77 (Operand.tmp 61) 1, type := 0, pos := "sfs.go:79", after := #[{ on := 1, ground := Ground.data }], guard := none }) (v := ?_) rfl (by kernel_rfl) (by kernel_rfl) (by kernel_rfl) (fun _ _ _ h => h) (Or.inl ⟨by rfl, ?_⟩) (by assumption) ?_
     rotate_left
     ·(intro w' hSw; go_simp; try with_reducible rfl)
     try simp only [Act.put, List.setIfInBounds_toArray, List.set_cons_zero, List.set_cons_succ]
     refine' wpAnyH_take (i := 3) (oi := { dst := some 63, op := Op.load 26 (Operand.tmp 62), type := 26, pos := "sfs.go:79", after := #[{ on := 2, ground := Ground.data }], guard := none }) (v := _) rfl (by kernel_rfl) (by kernel_rfl) (by kernel_rfl) (fun _ _ _ h => h) (ld_cell (by rfl) 26 _ Tryz.underlying26 rfl _ rfl g 1 rfl _ (fun w' hw => HFd.out w' hw.1)) (by assumption) ?_
     try simp only [Act.put, List.setIfInBounds_toArray, List.set_cons_zero, List.set_cons_succ]
     refine wpAnyH_take (i := 4) (oi := { dst := some 64, op := Op.fieldAddr 156 (Operand.tmp 10) 3, type := 0, pos := "sfs.go:79", after := #[], guard := none }) (v := ?_) rfl (by kernel_rfl) (by kernel_rfl) (by kernel_rfl) (fun _ _ _ h => h) (Or.inl ⟨by rfl, ?_⟩) (by assumption) ?_
     rotate_left
     ·(intro w' hSw; go_simp; try with_reducible rfl)
     try simp only [Act.put, List.setIfInBounds_toArray, List.set_cons_zero, List.set_cons_succ]
     refine' wpAnyH_take (i := 5) (oi := { dst := some 65, op := Op.load 3 (Operand.tmp 64), type := 3, pos := "sfs.go:79", after := #[{ on := 4, ground := Ground.data }], guard := none }) (v := _) rfl (by kernel_rfl) (by kernel_rfl) (by kernel_rfl) (fun _ _ _ h => h) (ld_cell (by rfl) 3 _ Tryz.underlying3 rfl _ rfl w4.heap.size 3 rfl (.int .i64 (k : Int)) (fun w' hw => by obtain ⟨t, ht⟩ := hw.2; exact ht.cell3)) (by assumption) ?_
     try simp only [Act.put, List.setIfInBounds_toArray, List.set_cons_zero, List.set_cons_succ]
     refine wpAnyH_ready (rs := [6]) (by kernel_rfl) (by simp) ?_
     refine AllReadyH.cons (o := { dst := some 66, op := Op.call { callee := Callee.value (Operand.func 117), args := #[Operand.tmp 63, Operand.tmp 65], argTypes := #[26, 3] }, type := 126, pos := "sfs.go:79", after := #[{ on := 3, ground := Ground.data }, { on := 5, ground := Ground.data }], guard := none }) rfl (fun K hK => ?_) AllReadyH.nil
     go_simp
     refine (HEk.out _ (HBd.out _ h0.1)).mono ?_
     rintro e v1 ⟨rfl, hb1⟩
     have h1 : dsk.Touch (fun b => b = w4.heap.size) w8.drew v1 ∧ ∃ t, AtP v1 w4.heap.size ⟨z, nm, true, (k : Int), t⟩ := ⟨h0.1.trans (dsk.Touch.of_below hb1), by obtain ⟨t, ht⟩ := h0.2; exact ⟨t, ht.later hb1⟩⟩
     dsimp only
     refine hK.out _ _ ?_ (fun hHeld => ?_)
     ·exact h1
     clear hK K
     try simp only [Act.put, List.setIfInBounds_toArray, List.set_cons_zero, List.set_cons_succ]
     refine wpAnyH_take (i := 7) (oi := { dst := some 67, op := Op.field 126 (Operand.tmp 66) 3, type := 3, pos := "sfs.go:79", after := #[{ on := 6, ground := Ground.data }], guard := none }) (v := ?_) rfl (by kernel_rfl) (by kernel_rfl) (by kernel_rfl) (fun _ _ _ h => h) (Or.inl ⟨by rfl, ?_⟩) (by assumption) ?_
     rotate_left
     ·(intro w' hSw; go_simp; try with_reducible rfl)
     try simp only [Act.put, List.setIfInBounds_toArray, List.set_cons_zero, List.set_cons_succ]
     refine wpAnyH_take (i := 8) (oi := { dst := some 68, op := Op.fieldAddr 156 (Operand.tmp 10) 4, type := 0, pos := "sfs.go:79", after := #[{ on := 0, ground := Ground.phase }, { on := 1, ground := Ground.phase }, { on := 2, ground := Ground.phase }, { on := 3, ground := Ground.phase }, { on := 4, ground := Ground.phase }, { on := 5, ground := Ground.phase }, { on := 6, ground := Ground.phase }, { on := 7, ground := Ground.phase }], guard := none }) (v := ?_) rfl (by kernel_rfl) (by kernel_rfl) (by kernel_rfl) (fun _ _ _ h => h) (Or.inl ⟨by rfl, ?_⟩) (by assumption) ?_
     rotate_left
     ·(intro w' hSw; go_simp; try with_reducible rfl)
     try simp only [Act.put, List.setIfInBounds_toArray, List.set_cons_zero, List.set_cons_succ]
     refine wpAnyH_ready (rs := [9]) (by kernel_rfl) (by simp) ?_
     refine AllReadyH.cons (o := { dst := none, op := Op.store 3 (Operand.tmp 68) (Operand.tmp 67), type := 0, pos := "sfs.go:79", after := #[{ on := 8, ground := Ground.data }, { on := 7, ground := Ground.data }, { on := 6, ground := Ground.chain }, { on := 0, ground := Ground.phase }, { on := 1, ground := Ground.phase }, { on := 2, ground := Ground.phase }, { on := 3, ground := Ground.phase }, { on := 4, ground := Ground.phase }, { on := 5, ground := Ground.phase }, { on := 6, ground := Ground.phase }, { on := 7, ground := Ground.phase }], guard := none }) rfl (fun K hK => ?_) AllReadyH.nil
     obtain ⟨tt, htt⟩ := h1.2
     refine step_store_int (by rfl) (.tmp 68) (.tmp 67) rfl w4.heap.size 4 rfl tg rfl _ htt.cell4 (frozen_row htt 4) ?_
     have PX := Lib.hid (htt.setT tg)
     have h2 : dsk.Touch (fun b => b = w4.heap.size) w8.drew (v1.setCell ⟨w4.heap.size, 4, none⟩ (.int .i64 tg)) ∧ ∃ t, AtP (v1.setCell ⟨w4.heap.size, 4, none⟩ (.int .i64 tg)) w4.heap.size ⟨z, nm, true, (k : Int), t⟩ := ⟨h1.1.setCell ⟨w4.heap.size, 4, none⟩ rfl _, tg, htt.setT tg⟩
     dsimp only
     refine hK.out _ _ ?_ (fun hHeld => ?_)
     ·exact h2
     clear hK K
     try simp only [Act.put, List.setIfInBounds_toArray, List.set_cons_zero, List.set_cons_succ]
     refine wpAnyH_done (by kernel_rfl) ?_ _
     have hbx := Lib.hid (HBd.out _ h2.1)
     have A9 := Lib.hid (AtP.touch (w := w8.drew) A8.out h2.1 hgb)
     generalize v1.setCell ⟨w4.heap.size, 4, none⟩ (.int .i64 tg) = v2 at *
     have PX : Hid (AtP v2 w4.heap.size ⟨z, nm, true, (k : Int), tg⟩) := Lib.hid PX.out
     go_wp2_with (first | (refine load_plc rfl (.tmp 10) rfl w4.heap.size rfl ⟨z, nm, true, (k : Int), tg⟩ PX.out ?_) | (refine store_plc rfl (.tmp 4) (.tmp 69) rfl rfl w.heap.size ⟨z, nm, true, (k : Int), tg⟩ plc0 rfl rfl A9.out ?_; intro w9 hA hB; have AA := Lib.hid hA; have BB := Lib.hid (hbx.out.trans hB); clear hA hB))
     exact ret_plc2 rfl w.heap.size ⟨z, nm, true, (k : Int), tg⟩ (.int .i64 0) rfl rfl AA.out rfl ⟨by rw [HR.out], BB.out⟩
   ·rw [if_pos hk] at HV
    subst HV
    have HI2 : Hid (∀ w', Below w.heap.size w w' → Calls Tryz.prog 96 #[.pointer (some ⟨g, 0, none⟩), .int .i64 z] w' fun e w'' => e = .returned (.bool false) ∧ Below w'.heap.size w' w'') := Lib.hid fun w' hb => by
     have h := HI.out w' hb
     rw [decide_eq_false hk] at h
     exact h
    clear HI
    go_enter Tryz.func95, Tryz.ntmps95
    go_upto_region 1 with fail
    clear hW1
    go_wp2_with (first
     | (go_at_call 89; refine (HM.out _ B1.out).mono ?_; rintro e wm ⟨rfl, hwm⟩; obtain rfl := hwm)
     | (go_at_call 94; refine (HP.out _ B1.out).mono ?_; rintro e w2 ⟨rfl, hb⟩; have B2 := Lib.hid (below_trans B1.out hb); have A2 := Lib.hid (A1.out.later hb); have c2 := (HK.out.later B2.out).row.disk; clear hb)
     | (go_at_call 49; refine (HL.out _ B2.out).mono ?_; rintro e w3 ⟨rfl, hb⟩; have B3 := Lib.hid (below_trans B2.out hb); have A3 := Lib.hid (A2.out.later hb); clear hb)
     | (go_at_call 96; refine (HI2.out _ B3.out).mono ?_; rintro e w4 ⟨rfl, hb⟩; have B4 := Lib.hid (below_trans B3.out hb); have A4 := Lib.hid (A3.out.later hb); clear hb)
     | (refine store_plc rfl (.tmp 4) (.tmp 42) rfl rfl w.heap.size plc0 plc0 rfl rfl A4.out ?_; intro w5 hA hB; have A5 := Lib.hid hA; have B5 := Lib.hid (B4.out.trans hB); clear hA hB))
    exact ret_plc2 rfl w.heap.size plc0 (.int .i64 6) rfl rfl A5.out rfl ⟨rfl, B5.out⟩
  ·rw [if_pos he2] at HV
   subst HV
   have hne : (e2 != 0) = true := by simpa using he2
   clear HI
   go_enter Tryz.func95, Tryz.ntmps95
   go_upto_region 1 with fail
   clear hW1
   go_wp2_with (first
    | (go_at_call 89; refine (HM.out _ B1.out).mono ?_; rintro e wm ⟨rfl, hwm⟩; obtain rfl := hwm)
    | (go_at_call 94; refine (HP.out _ B1.out).mono ?_; rintro e w2 ⟨rfl, hb⟩; have B2 := Lib.hid (below_trans B1.out hb); have A2 := Lib.hid (A1.out.later hb); have c2 := (HK.out.later B2.out).row.disk; clear hb)
    | (go_at_call 49; refine (HL.out _ B2.out).mono ?_; rintro e w3 ⟨rfl, hb⟩; have B3 := Lib.hid (below_trans B2.out hb); have A3 := Lib.hid (A2.out.later hb); clear hb)
    | (refine store_plc rfl (.tmp 4) (.tmp 36) rfl rfl w.heap.size plc0 plc0 rfl rfl A3.out ?_; intro w5 hA hB; have A5 := Lib.hid hA; have B5 := Lib.hid (B3.out.trans hB); clear hA hB))
   exact ret_plc2 rfl w.heap.size plc0 (.int .i64 e2) rfl rfl A5.out rfl ⟨rfl, B5.out⟩
 ·rw [if_pos he1] at HV
  subst HV
  have hne : (e1 != 0) = true := by simpa using he1
  clear HI
  go_enter Tryz.func95, Tryz.ntmps95
  go_upto_region 1 with fail
  clear hW1
  go_wp2_with (first
   | (go_at_call 89; refine (HM.out _ B1.out).mono ?_; rintro e wm ⟨rfl, hwm⟩; obtain rfl := hwm)
   | (go_at_call 94; refine (HP.out _ B1.out).mono ?_; rintro e w2 ⟨rfl, hb⟩; have B2 := Lib.hid (below_trans B1.out hb); have A2 := Lib.hid (A1.out.later hb); have c2 := (HK.out.later B2.out).row.disk; clear hb)
   | (refine store_plc rfl (.tmp 4) (.tmp 23) rfl rfl w.heap.size plc0 plc0 rfl rfl A2.out ?_; intro w5 hA hB; have A5 := Lib.hid hA; have B5 := Lib.hid (B2.out.trans hB); clear hA hB))
  exact ret_plc2 rfl w.heap.size plc0 (.int .i64 e1) rfl rfl A5.out rfl ⟨rfl, B5.out⟩
end fs
namespace fs
set_option maxRecDepth 100000
open Go.ChangeShapes Go.WideShapes Go.ChangeAt Go.RowKit
open rows
open sec
open dsk (size_alloc Wr w0 ld_cell step_alloc)
open ly
open pa
open lk
open al
set_option maxRecDepth 100000 in
set_option maxHeartbeats 1600000 in
theorem ffile (w : World) (g : Nat) (d : Value) (ss : List (List Int)) (s : ByteArray) (h : FK w g d ss) (hm : Mx w) (hsz : s.size ≤ 100000) :
  Calls Tryz.prog 90 #[.pointer (some ⟨g, 0, none⟩), .string s] w fun e w' => e = .returned (fileT (fileV ss s)) ∧ Below w.heap.size w w' := by
 have HK := Lib.hid h
 have HM := Lib.hid fun w' (hb : Below w.heap.size w w') => fmade g w' (h.row.later hb).self
 have HL := Lib.hid fun w' (hb : Below w.heap.size w w') => lookup_any w' d ss s (hm.later hb) (h.dk.later hb) hsz
 obtain ⟨hz0, hz1⟩ := lookV_fine h.dk.secs.1 (bys s)
 have HI := Lib.hid fun w' (hb : Below w.heap.size w w') => cino_any w' d ss (lookV ss (bys s)).1 (h.dk.later hb) (wf_byte (by omega))
 have H4 := Lib.hid (inoAt_four h.dk.secs.1 (lookV ss (bys s)).1)
 obtain ⟨V, HV⟩ : ∃ V, fileV ss s = V := ⟨_, rfl⟩
 rw [HV]
 unfold fileV at HV
 unfold lookT at HL
 generalize lookV ss (bys s) = lv at *
 obtain ⟨z, e2⟩ := lv
 simp only at HL HI H4 HV hz0 hz1
 generalize inoAt ss z = y at *
 obtain ⟨kd, sz, bl⟩ := y
 simp only at HV
 obtain ⟨W1, hW1⟩ : ∃ W1, w.alloc (.cells #[.int .i64 0, .int .i64 0, .int .i64 0, .int .i64 0, .int .i64 0, .int .i64 0] 122) = W1 := ⟨_, rfl⟩
 have A1 : Hid (AtI W1 w.heap.size ino0) := Lib.hid (by rw [← hW1]; exact heap_alloc_new _ _)
 have B1 : Hid (Below w.heap.size w W1) := Lib.hid (by rw [← hW1]; exact below_alloc (Below.refl _ _) _)
 have c1 := (HK.out.later B1.out).row.disk
 clear h hm hsz hz0 hz1
 by_cases he2 : e2 = 0
 ·subst he2
  rw [if_neg (by simp)] at HV
  by_cases hk : kd = 1
  ·subst hk
   rw [if_neg (by simp)] at HV
   subst HV
   go_enter Tryz.func90, Tryz.ntmps90
   go_upto_region 1 with fail
   clear hW1
   go_upto_region 7 with (first
    | (go_at_call 89; refine (HM.out _ B1.out).mono ?_; rintro e wm ⟨rfl, hwm⟩; obtain rfl := hwm)
    | (go_at_call 49; refine (HL.out _ B1.out).mono ?_; rintro e w2 ⟨rfl, hb⟩; have B2 := Lib.hid (below_trans B1.out hb); have A2 := Lib.hid (A1.out.later hb); have c2 := (HK.out.later B2.out).row.disk; clear hb)
    | (go_at_call 115; refine (HI.out _ B2.out).mono ?_; rintro e w3 ⟨rfl, hb⟩; have B3 := Lib.hid (below_trans B2.out hb); have A3 := Lib.hid (A2.out.later hb); clear hb)
    | (refine store_ino rfl (.tmp 9) (.tmp 32) rfl rfl w3.heap.size ⟨1, sz, bl⟩ ino0 rfl rfl H4.out rfl (atI_lit w3) ?_; intro w4 hA hB _; have hb := (below_alloc (Below.refl _ w3) _).trans hB; have B4 := Lib.hid (below_trans B3.out hb); have A4 := Lib.hid (A3.out.later hb); have X4 := Lib.hid hA; clear hA hB hb))
   have hc0 := X4.out.cell0
   simp only at hc0
   go_upto_region 9 with fail
   have hgb : w3.heap.size ≠ w.heap.size := by
    have h1 := A3.out
    unfold AtI at h1
    have := (Array.getElem?_eq_some_iff.1 h1).1
    omega
   have h0 := dsk.Touch.refl (fun k => k = w.heap.size) w4.drew
   have HX := Lib.hid fun w' (hw : dsk.Touch (fun k => k = w.heap.size) w4.drew w') => show AtI w' w3.heap.size ⟨1, sz, bl⟩ from (hw.block _ (Array.getElem?_eq_some_iff.1 X4.out).1 hgb).trans X4.out
   have A4d : Hid (AtI w4.drew w.heap.size ino0) := A4
   clear hc0 c1 c2
   refine wp_region_held_drew (S := dsk.Touch (fun k => k = w.heap.size) w4.drew) (by kernel_rfl) h0 (fun hH0 => ?_)
   refine wpAnyH_take (i := 0) (oi := { dst := some 37, op := Op.move (Operand.tmp 7), type := 3, pos := "bytes.go:23", after := #[], guard := none }) (v := ?_) rfl (by kernel_rfl) (by kernel_rfl) (by kernel_rfl) (fun _ _ _ h => h) (Or.inl ⟨by rfl, ?_⟩) (by assumption) ?_
   rotate_left
   ·(intro w' hSw; go_simp; try with_reducible rfl)
   try simp only [Act.put, List.setIfInBounds_toArray, List.set_cons_zero, List.set_cons_succ]
   refine' wpAnyH_take (i := 1) (oi := { dst := some 38, op := Op.load 122 (Operand.tmp 9), type := 122, pos := "bytes.go:23", after := #[{ on := 2, ground := Ground.gcOnly Departure.lateStores }], guard := none }) (v := _) rfl (by kernel_rfl) (by kernel_rfl) (by kernel_rfl) (fun _ _ _ h => h) (ld_ino (by rfl) (.tmp 9) rfl w3.heap.size rfl ⟨1, sz, bl⟩ H4.out (fun w' hw => HX.out w' hw)) (by assumption) ?_
   try simp only [Act.put, List.setIfInBounds_toArray, List.set_cons_zero, List.set_cons_succ]
   refine wpAnyH_take (i := 2) (oi := { dst := some 4, op := Op.assign (Operand.tmp 37), type := 3, pos := "bytes.go:23", after := #[{ on := 0, ground := Ground.data }, { on := 0, ground := Ground.phase }, { on := 1, ground := Ground.textOnly Departure.lateStores }], guard := none }) (v := ?_) rfl (by kernel_rfl) (by kernel_rfl) (by kernel_rfl) (fun _ _ _ h => h) (Or.inl ⟨by rfl, ?_⟩) (by assumption) ?_
   rotate_left
   ·(intro w' hSw; go_simp; try with_reducible rfl)
   try simp only [Act.put, List.setIfInBounds_toArray, List.set_cons_zero, List.set_cons_succ]
   refine wpAnyH_ready (rs := [3]) (by kernel_rfl) (by simp) ?_
   refine AllReadyH.cons (o := { dst := none, op := Op.store 122 (Operand.tmp 5) (Operand.tmp 38), type := 0, pos := "bytes.go:23", after := #[{ on := 1, ground := Ground.data }, { on := 2, ground := Ground.chain }, { on := 0, ground := Ground.phase }, { on := 1, ground := Ground.phase }, { on := 2, ground := Ground.phase }], guard := none }) rfl (fun K hK => ?_) AllReadyH.nil
   refine step_store_i (by rfl) (.tmp 5) (.tmp 38) rfl w.heap.size rfl ⟨1, sz, bl⟩ rfl H4.out ino0 rfl A4d.out ?_
   intro v1 hA1 hT1
   have AF := Lib.hid hA1
   have h1 := hT1
   dsimp only
   refine hK.out _ _ ?_ (fun hHeld => ?_)
   ·exact h1
   clear hK K
   try simp only [Act.put, List.setIfInBounds_toArray, List.set_cons_zero, List.set_cons_succ]
   refine wpAnyH_take (i := 4) (oi := { dst := some 6, op := Op.assign (Operand.const (Value.int IntKind.i64 0)), type := 27, pos := "bytes.go:23", after := #[{ on := 3, ground := Ground.chain }, { on := 0, ground := Ground.phase }, { on := 1, ground := Ground.phase }, { on := 2, ground := Ground.phase }, { on := 3, ground := Ground.phase }], guard := none }) (v := ?_) rfl (by kernel_rfl) (by kernel_rfl) (by kernel_rfl) (fun _ _ _ h => h) (Or.inl ⟨by rfl, ?_⟩) (by assumption) ?_
   rotate_left
   ·(intro w' hSw; go_simp; try with_reducible rfl)
   try simp only [Act.put, List.setIfInBounds_toArray, List.set_cons_zero, List.set_cons_succ]
   refine wpAnyH_done (by kernel_rfl) ?_ _
   go_wp2_with fail
   exact ret_ino3 rfl w.heap.size ⟨1, sz, bl⟩ (.int .i64 z) (.int .i64 0) rfl rfl rfl H4.out AF.out rfl ⟨rfl, B4.out.trans ((Below.refl w.heap.size w4).drew.trans (dsk.Touch.below h1 (by have := B4.out.size; exact this) (fun i hi => by omega)))⟩
  ·rw [if_pos hk] at HV
   subst HV
   have hne : (kd != 1) = true := by simpa using hk
   go_enter Tryz.func90, Tryz.ntmps90
   go_upto_region 1 with fail
   clear hW1
   go_upto_region 7 with (first
    | (go_at_call 89; refine (HM.out _ B1.out).mono ?_; rintro e wm ⟨rfl, hwm⟩; obtain rfl := hwm)
    | (go_at_call 49; refine (HL.out _ B1.out).mono ?_; rintro e w2 ⟨rfl, hb⟩; have B2 := Lib.hid (below_trans B1.out hb); have A2 := Lib.hid (A1.out.later hb); have c2 := (HK.out.later B2.out).row.disk; clear hb)
    | (go_at_call 115; refine (HI.out _ B2.out).mono ?_; rintro e w3 ⟨rfl, hb⟩; have B3 := Lib.hid (below_trans B2.out hb); have A3 := Lib.hid (A2.out.later hb); clear hb)
    | (refine store_ino rfl (.tmp 9) (.tmp 32) rfl rfl w3.heap.size ⟨kd, sz, bl⟩ ino0 rfl rfl H4.out rfl (atI_lit w3) ?_; intro w4 hA hB _; have hb := (below_alloc (Below.refl _ w3) _).trans hB; have B4 := Lib.hid (below_trans B3.out hb); have A4 := Lib.hid (A3.out.later hb); have X4 := Lib.hid hA; clear hA hB hb))
   have hc0 := X4.out.cell0
   simp only at hc0
   go_wp2_with (refine store_ino rfl (.tmp 5) (.tmp 36) rfl rfl w.heap.size ino0 ino0 rfl rfl rfl rfl A4.out ?_; intro w5 hA hB _; have A5 := Lib.hid hA; have B5 := Lib.hid (B4.out.trans hB); clear hA hB)
   exact ret_ino3 rfl w.heap.size ino0 (.int .i64 0) (.int .i64 6) rfl rfl rfl rfl A5.out rfl ⟨rfl, B5.out⟩
 ·rw [if_pos he2] at HV
  subst HV
  have hne : (e2 != 0) = true := by simpa using he2
  go_enter Tryz.func90, Tryz.ntmps90
  go_upto_region 1 with fail
  clear hW1
  go_wp2_with (first
   | (go_at_call 89; refine (HM.out _ B1.out).mono ?_; rintro e wm ⟨rfl, hwm⟩; obtain rfl := hwm)
   | (go_at_call 49; refine (HL.out _ B1.out).mono ?_; rintro e w2 ⟨rfl, hb⟩; have B2 := Lib.hid (below_trans B1.out hb); have A2 := Lib.hid (A1.out.later hb); clear hb)
   | (refine store_ino rfl (.tmp 5) (.tmp 25) rfl rfl w.heap.size ino0 ino0 rfl rfl rfl rfl A2.out ?_; intro w5 hA hB _; have A5 := Lib.hid hA; have B5 := Lib.hid (B2.out.trans hB); clear hA hB))
  exact ret_ino3 rfl w.heap.size ino0 (.int .i64 0) (.int .i64 e2) rfl rfl rfl rfl A5.out rfl ⟨rfl, B5.out⟩
def contV (ss : List (List Int)) (b : Int) : List Int := if b = 0 then zero32 else secAt ss (40 + b)
theorem contV_sec {ss : List (List Int)} (hs : Secs ss) (b : Int) : Sec (contV ss b) := by
 unfold contV
 split
 ·exact sec_zero
 ·exact secAt_sec hs _
set_option maxRecDepth 100000 in
set_option maxHeartbeats 1600000 in
theorem fcontent (w : World) (g : Nat) (d : Value) (ss : List (List Int)) (b : Int) (h : FK w g d ss) (hb : 0 ≤ b ∧ b ≤ 200) :
  Calls Tryz.prog 92 #[.pointer (some ⟨g, 0, none⟩), .int .i64 b] w fun e w' => e = .returned (agg (contV ss b)) ∧ Below w.heap.size w w' := by
 obtain ⟨W1, hW1⟩ : ∃ W1, w.alloc (.cells #[Value.int IntKind.u8 0, Value.int IntKind.u8 0, Value.int IntKind.u8 0, Value.int IntKind.u8 0, Value.int IntKind.u8 0, Value.int IntKind.u8 0, Value.int IntKind.u8 0, Value.int IntKind.u8 0, Value.int IntKind.u8 0, Value.int IntKind.u8 0, Value.int IntKind.u8 0, Value.int IntKind.u8 0, Value.int IntKind.u8 0, Value.int IntKind.u8 0, Value.int IntKind.u8 0, Value.int IntKind.u8 0, Value.int IntKind.u8 0, Value.int IntKind.u8 0, Value.int IntKind.u8 0, Value.int IntKind.u8 0, Value.int IntKind.u8 0, Value.int IntKind.u8 0, Value.int IntKind.u8 0, Value.int IntKind.u8 0, Value.int IntKind.u8 0, Value.int IntKind.u8 0, Value.int IntKind.u8 0, Value.int IntKind.u8 0, Value.int IntKind.u8 0, Value.int IntKind.u8 0, Value.int IntKind.u8 0, Value.int IntKind.u8 0] 84) = W1 := ⟨_, rfl⟩
 have A1 : Hid (At W1 w.heap.size zero32) := Lib.hid (by rw [← hW1]; exact at_lit w)
 have B1 : Hid (Below w.heap.size w W1) := Lib.hid (by rw [← hW1]; exact below_alloc (Below.refl _ _) _)
 by_cases hb0 : b = 0
 ·have e : contV ss b = zero32 := by rw [contV, if_pos hb0]
  rw [e]
  subst hb0
  clear h hb e
  go_enter Tryz.func92, Tryz.ntmps92
  go_upto_region 1 with fail
  clear hW1
  go_wp2_with (refine store_at rfl (.tmp 4) (.tmp 9) rfl rfl w.heap.size zero32 zero32 rfl (congrArg Value.agg lit_zero) (by decide) (by decide) A1.out ?_; intro w5 hA hB _; have A5 := Lib.hid hA; have B5 := Lib.hid (B1.out.trans hB); clear hA hB)
  exact ret_sec rfl w.heap.size zero32 rfl (by decide) A5.out rfl ⟨rfl, B5.out⟩
 ·have e : contV ss b = secAt ss (40 + b) := by rw [contV, if_neg hb0]
  rw [e]
  have HS := Lib.hid fun w' => fsector b (by omega) w'
  have HR := Lib.hid fun w' (hbb : Below w.heap.size w w') => dread w' d ss (40 + b) (h.dk.later hbb) (WalkArith.wf_i64 (by omega))
  have HX := Lib.hid (secAt_sec h.dk.secs.1 (40 + b))
  have F1 := Lib.hid (h.later B1.out).row
  have hbe : (b == 0) = false := beq_eq_false_iff_ne.2 hb0
  generalize (if 0 ≤ 40 + b ∧ 40 + b < (ss.length : Int) then (0 : Int) else 1) = r at *
  generalize secAt ss (40 + b) = x at *
  clear h hb e hb0
  go_enter Tryz.func92, Tryz.ntmps92
  go_upto_region 1 with fail
  clear hW1
  go_upto_region 3 with fail
  have h0 : Below W1.drew.heap.size W1.drew W1.drew := Below.refl _ _
  have ZS : Hid ((Tryz.prog.info? 84).map (·.zero) = some (some (.agg (u8s zero32).toArray))) := Lib.hid (by kernel_rfl)
  have HPD := Lib.hid fun v (hv : Below W1.drew.heap.size W1.drew v) => (FR.later (w := W1.drew) F1.out hv).disk
  have HBd : Hid (∀ v, Below W1.drew.heap.size W1.drew v → Below w.heap.size w v) := Lib.hid fun v hv => below_trans B1.out (((Below.refl W1.heap.size W1).drew).trans hv)
  refine wp_region_held_drew (S := Below W1.drew.heap.size W1.drew) (by kernel_rfl) h0 (fun hH0 => ?_)
  refine wpAnyH_take (i := 0) (oi := { dst := some 11, op := Op.move (Operand.tmp 0), type := 33, pos := "bytes.go:104", after := #[], guard := none }) (v := ?_) rfl (by kernel_rfl) (by kernel_rfl) (by kernel_rfl) (fun _ _ _ h => h) (Or.inl ⟨by rfl, ?_⟩) (by assumption) ?_
  rotate_left
  ·(intro w' hSw; go_simp; try with_reducible rfl)
  try simp only [Act.put, List.setIfInBounds_toArray, List.set_cons_zero, List.set_cons_succ]
  refine wpAnyH_take (i := 1) (oi := { dst := some 12, op := Op.nilCheck (Operand.tmp 11), type := 0, pos := "bytes.go:104", after := #[{ on := 0, ground := Ground.data }], guard := none }) (v := ?_) rfl (by kernel_rfl) (by kernel_rfl) (by kernel_rfl) (fun _ _ _ h => h) (Or.inl ⟨by rfl, ?_⟩) (by assumption) ?_
  rotate_left
  ·(intro w' hSw; go_simp; try with_reducible rfl)
  try simp only [Act.put, List.setIfInBounds_toArray, List.set_cons_zero, List.set_cons_succ]
  refine wpAnyH_take (i := 2) (oi := { dst := some 13, op := Op.fieldAddr 77 (Operand.tmp 12) 1, type := 0, pos := "bytes.go:104", after := #[{ on := 1, ground := Ground.data }], guard := none }) (v := ?_) rfl (by kernel_rfl) (by kernel_rfl) (by kernel_rfl) (fun _ _ _ h => h) (Or.inl ⟨by rfl, ?_⟩) (by assumption) ?_
  rotate_left
  ·(intro w' hSw; go_simp; try with_reducible rfl)
  try simp only [Act.put, List.setIfInBounds_toArray, List.set_cons_zero, List.set_cons_succ]
  refine' wpAnyH_take (i := 3) (oi := { dst := some 14, op := Op.load 26 (Operand.tmp 13), type := 26, pos := "bytes.go:104", after := #[{ on := 2, ground := Ground.data }], guard := none }) (v := _) rfl (by kernel_rfl) (by kernel_rfl) (by kernel_rfl) (fun _ _ _ h => h) (ld_cell (by rfl) 26 _ Tryz.underlying26 rfl _ rfl g 1 rfl _ (fun w' hw => HPD.out w' hw)) (by assumption) ?_
  try simp only [Act.put, List.setIfInBounds_toArray, List.set_cons_zero, List.set_cons_succ]
  refine wpAnyH_take (i := 4) (oi := { dst := some 15, op := Op.move (Operand.tmp 1), type := 3, pos := "bytes.go:104", after := #[], guard := none }) (v := ?_) rfl (by kernel_rfl) (by kernel_rfl) (by kernel_rfl) (fun _ _ _ h => h) (Or.inl ⟨by rfl, ?_⟩) (by assumption) ?_
  rotate_left
  ·(intro w' hSw; go_simp; try with_reducible rfl)
  try simp only [Act.put, List.setIfInBounds_toArray, List.set_cons_zero, List.set_cons_succ]
  refine wpAnyH_ready (rs := [5, 10]) (by kernel_rfl) (by simp) ?_
  refine AllReadyH.cons (o := { dst := some 16, op := Op.call { callee := Callee.value (Operand.func 150), args := #[Operand.tmp 15], argTypes := #[3] }, type := 3, pos := "bytes.go:104", after := #[{ on := 4, ground := Ground.data }], guard := none }) rfl (fun K hK => ?_) (AllReadyH.cons (o := { dst := some 5, op := Op.alloc 84, type := 0, pos := "bytes.go:104", after := #[], guard := none }) rfl (fun K hK => ?_) AllReadyH.nil)
  ·go_simp
   refine (HS.out _).mono ?_
   rintro e v1 ⟨rfl, hv1⟩
   obtain rfl := hv1
   have h1 := h0
   dsimp only
   refine hK.out _ _ ?_ (fun hHeld => ?_)
   ·exact h1
   clear hK K
   try simp only [Act.put, List.setIfInBounds_toArray, List.set_cons_zero, List.set_cons_succ]
   refine wpAnyH_ready (rs := [6, 10]) (by kernel_rfl) (by simp) ?_
   refine AllReadyH.cons (o := { dst := some 17, op := Op.call { callee := Callee.value (Operand.func 48), args := #[Operand.tmp 14, Operand.tmp 16], argTypes := #[26, 3] }, type := 86, pos := "bytes.go:104", after := #[{ on := 3, ground := Ground.data }, { on := 5, ground := Ground.data }, { on := 5, ground := Ground.chain }], guard := none }) rfl (fun K hK => ?_) (AllReadyH.cons (o := { dst := some 5, op := Op.alloc 84, type := 0, pos := "bytes.go:104", after := #[], guard := none }) rfl (fun K hK => ?_) AllReadyH.nil)
   ·go_simp
    refine (HR.out _ (HBd.out _ h1)).mono ?_
    rintro e v2 ⟨rfl, hv2⟩
    have h2 := h1.trans (hv2.mono h1.size)
    try have AB := Lib.hid (AB.out.later hv2)
    dsimp only
    refine hK.out _ _ ?_ (fun hHeld => ?_)
    ·exact h2
    clear hK K
    try simp only [Act.put, List.setIfInBounds_toArray, List.set_cons_zero, List.set_cons_succ]
    refine wpAnyH_take (i := 7) (oi := { dst := some 10, op := Op.move (Operand.tmp 17), type := 86, pos := "bytes.go:104", after := #[{ on := 6, ground := Ground.data }], guard := none }) (v := ?_) rfl (by kernel_rfl) (by kernel_rfl) (by kernel_rfl) (fun _ _ _ h => h) (Or.inl ⟨by rfl, ?_⟩) (by assumption) ?_
    rotate_left
    ·(intro w' hSw; go_simp; try with_reducible rfl)
    try simp only [Act.put, List.setIfInBounds_toArray, List.set_cons_zero, List.set_cons_succ]
    refine wpAnyH_take (i := 8) (oi := { dst := some 18, op := Op.extract (Operand.tmp 10) 0, type := 84, pos := "bytes.go:104", after := #[{ on := 7, ground := Ground.data }], guard := none }) (v := ?_) rfl (by kernel_rfl) (by kernel_rfl) (by kernel_rfl) (fun _ _ _ h => h) (Or.inl ⟨by rfl, ?_⟩) (by assumption) ?_
    rotate_left
    ·(intro w' hSw; go_simp; try with_reducible rfl)
    try simp only [Act.put, List.setIfInBounds_toArray, List.set_cons_zero, List.set_cons_succ]
    refine wpAnyH_take (i := 9) (oi := { dst := some 19, op := Op.extract (Operand.tmp 10) 1, type := 27, pos := "bytes.go:104", after := #[{ on := 7, ground := Ground.data }, { on := 11, ground := Ground.gcOnly Departure.lateStores }], guard := none }) (v := ?_) rfl (by kernel_rfl) (by kernel_rfl) (by kernel_rfl) (fun _ _ _ h => h) (Or.inl ⟨by rfl, ?_⟩) (by assumption) ?_
    rotate_left
    ·(intro w' hSw; go_simp; try with_reducible rfl)
    try simp only [Act.put, List.setIfInBounds_toArray, List.set_cons_zero, List.set_cons_succ]
    refine wpAnyH_ready (rs := [10]) (by kernel_rfl) (by simp) ?_
    refine AllReadyH.cons (o := { dst := some 5, op := Op.alloc 84, type := 0, pos := "bytes.go:104", after := #[], guard := none }) rfl (fun K hK => ?_) AllReadyH.nil
    refine step_alloc (z := u8s zero32) ZS.out (by rfl) rfl ?_
    intro gb v3 hg3 ha3 hv3
    have h3 := h2.trans (hv3.mono h2.size)
    have AB : Hid (At v3 gb zero32) := Lib.hid ha3
    have GB := Lib.hid (Nat.le_trans h2.size hg3)
    dsimp only
    refine hK.out _ _ ?_ (fun hHeld => ?_)
    ·exact h3
    clear hK K
    try simp only [Act.put, List.setIfInBounds_toArray, List.set_cons_zero, List.set_cons_succ]
    refine wpAnyH_ready (rs := [11]) (by kernel_rfl) (by simp) ?_
    refine AllReadyH.cons (o := { dst := none, op := Op.store 84 (Operand.tmp 5) (Operand.tmp 18), type := 0, pos := "bytes.go:104", after := #[{ on := 10, ground := Ground.data }, { on := 8, ground := Ground.data }, { on := 6, ground := Ground.chain }, { on := 0, ground := Ground.phase }, { on := 1, ground := Ground.phase }, { on := 2, ground := Ground.phase }, { on := 3, ground := Ground.phase }, { on := 4, ground := Ground.phase }, { on := 5, ground := Ground.phase }, { on := 6, ground := Ground.phase }, { on := 7, ground := Ground.phase }, { on := 8, ground := Ground.phase }, { on := 9, ground := Ground.textOnly Departure.lateStores }, { on := 10, ground := Ground.phase }], guard := none }) rfl (fun K hK => ?_) AllReadyH.nil
    refine step_store (by rfl) (.tmp 5) (.tmp 18) rfl gb rfl x rfl HX.out.1 zero32 (by decide) AB.out ?_
    have AX := Lib.hid (show At _ gb x from setRow_heap _ gb _ _ _ _ AB.out)
    have h4 := below_setRow h3 GB.out (u8s x).toArray
    dsimp only
    refine hK.out _ _ ?_ (fun hHeld => ?_)
    ·exact h4
    clear hK K
    try simp only [Act.put, List.setIfInBounds_toArray, List.set_cons_zero, List.set_cons_succ]
    refine wpAnyH_take (i := 12) (oi := { dst := some 6, op := Op.assign (Operand.tmp 19), type := 27, pos := "bytes.go:104", after := #[{ on := 9, ground := Ground.data }, { on := 11, ground := Ground.chain }, { on := 0, ground := Ground.phase }, { on := 1, ground := Ground.phase }, { on := 2, ground := Ground.phase }, { on := 3, ground := Ground.phase }, { on := 4, ground := Ground.phase }, { on := 5, ground := Ground.phase }, { on := 6, ground := Ground.phase }, { on := 7, ground := Ground.phase }, { on := 8, ground := Ground.phase }, { on := 9, ground := Ground.phase }, { on := 10, ground := Ground.phase }, { on := 11, ground := Ground.phase }], guard := none }) (v := ?_) rfl (by kernel_rfl) (by kernel_rfl) (by kernel_rfl) (fun _ _ _ h => h) (Or.inl ⟨by rfl, ?_⟩) (by assumption) ?_
    rotate_left
    ·(intro w' hSw; go_simp; try with_reducible rfl)
    try simp only [Act.put, List.setIfInBounds_toArray, List.set_cons_zero, List.set_cons_succ]
    refine wpAnyH_done (by kernel_rfl) ?_ _
    have A3 : Hid (At _ w.heap.size zero32) := Lib.hid (At.later (w := W1.drew) A1.out h4)
    have B3 := Lib.hid (HBd.out _ h4)
    go_wp2_with (first | (refine load_at rfl (.tmp 5) rfl gb rfl x HX.out.1 AX.out ?_) | (refine store_at rfl (.tmp 4) (.tmp 20) rfl rfl w.heap.size x zero32 rfl rfl HX.out.1 (by decide) A3.out ?_; intro w5 hA hB _; have A5 := Lib.hid hA; have B5 := Lib.hid (B3.out.trans hB); clear hA hB))
    exact ret_sec rfl w.heap.size x rfl HX.out.1 A5.out rfl ⟨rfl, B5.out⟩
   ·refine step_alloc (z := u8s zero32) ZS.out (by rfl) rfl ?_
    intro gb v5 hg5 ha5 hv5
    have h5 := h1.trans (hv5.mono h1.size)
    have AB : Hid (At v5 gb zero32) := Lib.hid ha5
    have GB := Lib.hid (Nat.le_trans h1.size hg5)
    dsimp only
    refine hK.out _ _ ?_ (fun hHeld => ?_)
    ·exact h5
    clear hK K
    try simp only [Act.put, List.setIfInBounds_toArray, List.set_cons_zero, List.set_cons_succ]
    refine wpAnyH_ready (rs := [6]) (by kernel_rfl) (by simp) ?_
    refine AllReadyH.cons (o := { dst := some 17, op := Op.call { callee := Callee.value (Operand.func 48), args := #[Operand.tmp 14, Operand.tmp 16], argTypes := #[26, 3] }, type := 86, pos := "bytes.go:104", after := #[{ on := 3, ground := Ground.data }, { on := 5, ground := Ground.data }, { on := 5, ground := Ground.chain }], guard := none }) rfl (fun K hK => ?_) AllReadyH.nil
    go_simp
    refine (HR.out _ (HBd.out _ h5)).mono ?_
    rintro e v6 ⟨rfl, hv6⟩
    have h6 := h5.trans (hv6.mono h5.size)
    try have AB := Lib.hid (AB.out.later hv6)
    dsimp only
    refine hK.out _ _ ?_ (fun hHeld => ?_)
    ·exact h6
    clear hK K
    try simp only [Act.put, List.setIfInBounds_toArray, List.set_cons_zero, List.set_cons_succ]
    refine wpAnyH_take (i := 7) (oi := { dst := some 10, op := Op.move (Operand.tmp 17), type := 86, pos := "bytes.go:104", after := #[{ on := 6, ground := Ground.data }], guard := none }) (v := ?_) rfl (by kernel_rfl) (by kernel_rfl) (by kernel_rfl) (fun _ _ _ h => h) (Or.inl ⟨by rfl, ?_⟩) (by assumption) ?_
    rotate_left
    ·(intro w' hSw; go_simp; try with_reducible rfl)
    try simp only [Act.put, List.setIfInBounds_toArray, List.set_cons_zero, List.set_cons_succ]
    refine wpAnyH_take (i := 8) (oi := { dst := some 18, op := Op.extract (Operand.tmp 10) 0, type := 84, pos := "bytes.go:104", after := #[{ on := 7, ground := Ground.data }], guard := none }) (v := ?_) rfl (by kernel_rfl) (by kernel_rfl) (by kernel_rfl) (fun _ _ _ h => h) (Or.inl ⟨by rfl, ?_⟩) (by assumption) ?_
    rotate_left
    ·(intro w' hSw; go_simp; try with_reducible rfl)
    try simp only [Act.put, List.setIfInBounds_toArray, List.set_cons_zero, List.set_cons_succ]
    refine wpAnyH_take (i := 9) (oi := { dst := some 19, op := Op.extract (Operand.tmp 10) 1, type := 27, pos := "bytes.go:104", after := #[{ on := 7, ground := Ground.data }, { on := 11, ground := Ground.gcOnly Departure.lateStores }], guard := none }) (v := ?_) rfl (by kernel_rfl) (by kernel_rfl) (by kernel_rfl) (fun _ _ _ h => h) (Or.inl ⟨by rfl, ?_⟩) (by assumption) ?_
    rotate_left
    ·(intro w' hSw; go_simp; try with_reducible rfl)
    try simp only [Act.put, List.setIfInBounds_toArray, List.set_cons_zero, List.set_cons_succ]
    refine wpAnyH_ready (rs := [11]) (by kernel_rfl) (by simp) ?_
    refine AllReadyH.cons (o := { dst := none, op := Op.store 84 (Operand.tmp 5) (Operand.tmp 18), type := 0, pos := "bytes.go:104", after := #[{ on := 10, ground := Ground.data }, { on := 8, ground := Ground.data }, { on := 6, ground := Ground.chain }, { on := 0, ground := Ground.phase }, { on := 1, ground := Ground.phase }, { on := 2, ground := Ground.phase }, { on := 3, ground := Ground.phase }, { on := 4, ground := Ground.phase }, { on := 5, ground := Ground.phase }, { on := 6, ground := Ground.phase }, { on := 7, ground := Ground.phase }, { on := 8, ground := Ground.phase }, { on := 9, ground := Ground.textOnly Departure.lateStores }, { on := 10, ground := Ground.phase }], guard := none }) rfl (fun K hK => ?_) AllReadyH.nil
    refine step_store (by rfl) (.tmp 5) (.tmp 18) rfl gb rfl x rfl HX.out.1 zero32 (by decide) AB.out ?_
    have AX := Lib.hid (show At _ gb x from setRow_heap _ gb _ _ _ _ AB.out)
    have h7 := below_setRow h6 GB.out (u8s x).toArray
    dsimp only
    refine hK.out _ _ ?_ (fun hHeld => ?_)
    ·exact h7
    clear hK K
    try simp only [Act.put, List.setIfInBounds_toArray, List.set_cons_zero, List.set_cons_succ]
    refine wpAnyH_take (i := 12) (oi := { dst := some 6, op := Op.assign (Operand.tmp 19), type := 27, pos := "bytes.go:104", after := #[{ on := 9, ground := Ground.data }, { on := 11, ground := Ground.chain }, { on := 0, ground := Ground.phase }, { on := 1, ground := Ground.phase }, { on := 2, ground := Ground.phase }, { on := 3, ground := Ground.phase }, { on := 4, ground := Ground.phase }, { on := 5, ground := Ground.phase }, { on := 6, ground := Ground.phase }, { on := 7, ground := Ground.phase }, { on := 8, ground := Ground.phase }, { on := 9, ground := Ground.phase }, { on := 10, ground := Ground.phase }, { on := 11, ground := Ground.phase }], guard := none }) (v := ?_) rfl (by kernel_rfl) (by kernel_rfl) (by kernel_rfl) (fun _ _ _ h => h) (Or.inl ⟨by rfl, ?_⟩) (by assumption) ?_
    rotate_left
    ·(intro w' hSw; go_simp; try with_reducible rfl)
    try simp only [Act.put, List.setIfInBounds_toArray, List.set_cons_zero, List.set_cons_succ]
    refine wpAnyH_done (by kernel_rfl) ?_ _
    have A3 : Hid (At _ w.heap.size zero32) := Lib.hid (At.later (w := W1.drew) A1.out h7)
    have B3 := Lib.hid (HBd.out _ h7)
    go_wp2_with (first | (refine load_at rfl (.tmp 5) rfl gb rfl x HX.out.1 AX.out ?_) | (refine store_at rfl (.tmp 4) (.tmp 20) rfl rfl w.heap.size x zero32 rfl rfl HX.out.1 (by decide) A3.out ?_; intro w5 hA hB _; have A5 := Lib.hid hA; have B5 := Lib.hid (B3.out.trans hB); clear hA hB))
    exact ret_sec rfl w.heap.size x rfl HX.out.1 A5.out rfl ⟨rfl, B5.out⟩
  ·refine step_alloc (z := u8s zero32) ZS.out (by rfl) rfl ?_
   intro gb v8 hg8 ha8 hv8
   have h8 := h0.trans (hv8.mono h0.size)
   have AB : Hid (At v8 gb zero32) := Lib.hid ha8
   have GB := Lib.hid (Nat.le_trans h0.size hg8)
   dsimp only
   refine hK.out _ _ ?_ (fun hHeld => ?_)
   ·exact h8
   clear hK K
   try simp only [Act.put, List.setIfInBounds_toArray, List.set_cons_zero, List.set_cons_succ]
   refine wpAnyH_ready (rs := [5]) (by kernel_rfl) (by simp) ?_
   refine AllReadyH.cons (o := { dst := some 16, op := Op.call { callee := Callee.value (Operand.func 150), args := #[Operand.tmp 15], argTypes := #[3] }, type := 3, pos := "bytes.go:104", after := #[{ on := 4, ground := Ground.data }], guard := none }) rfl (fun K hK => ?_) AllReadyH.nil
   go_simp
   refine (HS.out _).mono ?_
   rintro e v9 ⟨rfl, hv9⟩
   obtain rfl := hv9
   have h9 := h8
   dsimp only
   refine hK.out _ _ ?_ (fun hHeld => ?_)
   ·exact h9
   clear hK K
   try simp only [Act.put, List.setIfInBounds_toArray, List.set_cons_zero, List.set_cons_succ]
   refine wpAnyH_ready (rs := [6]) (by kernel_rfl) (by simp) ?_
   refine AllReadyH.cons (o := { dst := some 17, op := Op.call { callee := Callee.value (Operand.func 48), args := #[Operand.tmp 14, Operand.tmp 16], argTypes := #[26, 3] }, type := 86, pos := "bytes.go:104", after := #[{ on := 3, ground := Ground.data }, { on := 5, ground := Ground.data }, { on := 5, ground := Ground.chain }], guard := none }) rfl (fun K hK => ?_) AllReadyH.nil
   go_simp
   refine (HR.out _ (HBd.out _ h9)).mono ?_
   rintro e v10 ⟨rfl, hv10⟩
   have h10 := h9.trans (hv10.mono h9.size)
   try have AB := Lib.hid (AB.out.later hv10)
   dsimp only
   refine hK.out _ _ ?_ (fun hHeld => ?_)
   ·exact h10
   clear hK K
   try simp only [Act.put, List.setIfInBounds_toArray, List.set_cons_zero, List.set_cons_succ]
   refine wpAnyH_take (i := 7) (oi := { dst := some 10, op := Op.move (Operand.tmp 17), type := 86, pos := "bytes.go:104", after := #[{ on := 6, ground := Ground.data }], guard := none }) (v := ?_) rfl (by kernel_rfl) (by kernel_rfl) (by kernel_rfl) (fun _ _ _ h => h) (Or.inl ⟨by rfl, ?_⟩) (by assumption) ?_
   rotate_left
   ·(intro w' hSw; go_simp; try with_reducible rfl)
   try simp only [Act.put, List.setIfInBounds_toArray, List.set_cons_zero, List.set_cons_succ]
   refine wpAnyH_take (i := 8) (oi := { dst := some 18, op := Op.extract (Operand.tmp 10) 0, type := 84, pos := "bytes.go:104", after := #[{ on := 7, ground := Ground.data }], guard := none }) (v := ?_) rfl (by kernel_rfl) (by kernel_rfl) (by kernel_rfl) (fun _ _ _ h => h) (Or.inl ⟨by rfl, ?_⟩) (by assumption) ?_
   rotate_left
   ·(intro w' hSw; go_simp; try with_reducible rfl)
   try simp only [Act.put, List.setIfInBounds_toArray, List.set_cons_zero, List.set_cons_succ]
   refine wpAnyH_take (i := 9) (oi := { dst := some 19, op := Op.extract (Operand.tmp 10) 1, type := 27, pos := "bytes.go:104", after := #[{ on := 7, ground := Ground.data }, { on := 11, ground := Ground.gcOnly Departure.lateStores }], guard := none }) (v := ?_) rfl (by kernel_rfl) (by kernel_rfl) (by kernel_rfl) (fun _ _ _ h => h) (Or.inl ⟨by rfl, ?_⟩) (by assumption) ?_
   rotate_left
   ·(intro w' hSw; go_simp; try with_reducible rfl)
   try simp only [Act.put, List.setIfInBounds_toArray, List.set_cons_zero, List.set_cons_succ]
   refine wpAnyH_ready (rs := [11]) (by kernel_rfl) (by simp) ?_
   refine AllReadyH.cons (o := { dst := none, op := Op.store 84 (Operand.tmp 5) (Operand.tmp 18), type := 0, pos := "bytes.go:104", after := #[{ on := 10, ground := Ground.data }, { on := 8, ground := Ground.data }, { on := 6, ground := Ground.chain }, { on := 0, ground := Ground.phase }, { on := 1, ground := Ground.phase }, { on := 2, ground := Ground.phase }, { on := 3, ground := Ground.phase }, { on := 4, ground := Ground.phase }, { on := 5, ground := Ground.phase }, { on := 6, ground := Ground.phase }, { on := 7, ground := Ground.phase }, { on := 8, ground := Ground.phase }, { on := 9, ground := Ground.textOnly Departure.lateStores }, { on := 10, ground := Ground.phase }], guard := none }) rfl (fun K hK => ?_) AllReadyH.nil
   refine step_store (by rfl) (.tmp 5) (.tmp 18) rfl gb rfl x rfl HX.out.1 zero32 (by decide) AB.out ?_
   have AX := Lib.hid (show At _ gb x from setRow_heap _ gb _ _ _ _ AB.out)
   have h11 := below_setRow h10 GB.out (u8s x).toArray
   dsimp only
   refine hK.out _ _ ?_ (fun hHeld => ?_)
   ·exact h11
   clear hK K
   try simp only [Act.put, List.setIfInBounds_toArray, List.set_cons_zero, List.set_cons_succ]
   refine wpAnyH_take (i := 12) (oi := { dst := some 6, op := Op.assign (Operand.tmp 19), type := 27, pos := "bytes.go:104", after := #[{ on := 9, ground := Ground.data }, { on := 11, ground := Ground.chain }, { on := 0, ground := Ground.phase }, { on := 1, ground := Ground.phase }, { on := 2, ground := Ground.phase }, { on := 3, ground := Ground.phase }, { on := 4, ground := Ground.phase }, { on := 5, ground := Ground.phase }, { on := 6, ground := Ground.phase }, { on := 7, ground := Ground.phase }, { on := 8, ground := Ground.phase }, { on := 9, ground := Ground.phase }, { on := 10, ground := Ground.phase }, { on := 11, ground := Ground.phase }], guard := none }) (v := ?_) rfl (by kernel_rfl) (by kernel_rfl) (by kernel_rfl) (fun _ _ _ h => h) (Or.inl ⟨by rfl, ?_⟩) (by assumption) ?_
   rotate_left
   ·(intro w' hSw; go_simp; try with_reducible rfl)
   try simp only [Act.put, List.setIfInBounds_toArray, List.set_cons_zero, List.set_cons_succ]
   refine wpAnyH_done (by kernel_rfl) ?_ _
   have A3 : Hid (At _ w.heap.size zero32) := Lib.hid (At.later (w := W1.drew) A1.out h11)
   have B3 := Lib.hid (HBd.out _ h11)
   go_wp2_with (first | (refine load_at rfl (.tmp 5) rfl gb rfl x HX.out.1 AX.out ?_) | (refine store_at rfl (.tmp 4) (.tmp 20) rfl rfl w.heap.size x zero32 rfl rfl HX.out.1 (by decide) A3.out ?_; intro w5 hA hB _; have A5 := Lib.hid hA; have B5 := Lib.hid (B3.out.trans hB); clear hA hB))
   exact ret_sec rfl w.heap.size x rfl HX.out.1 A5.out rfl ⟨rfl, B5.out⟩
set_option maxRecDepth 100000 in
set_option maxHeartbeats 1600000 in
theorem fblockStep (n b : Int) (hb : 0 ≤ b ∧ b ≤ 200) (s : List Int) (hs : Sec s) (w : World) : Calls Tryz.prog 210 #[.int .i64 n, .int .i64 b, agg s] w fun e w' => e = .returned (aggT ⟨40 + b, s, 1, n, 0⟩ false) ∧ Below w.heap.size w w' := by
 have HS := Lib.hid hs
 have HB := Lib.hid fun w' => fsector b (by omega) w'
 have HT := Lib.hid fun w' => fstepTo (40 + b) s hs 1 n w'
 have HX := Lib.hid (show Sec (⟨40 + b, s, 1, n, 0⟩ : Wr).s from hs)
 generalize (⟨40 + b, s, 1, n, 0⟩ : Wr) = X at *
 have a0 : At ((w.alloc (.cells (u8s s).toArray 84)).alloc (.cells #[Value.int IntKind.i64 0, Value.int IntKind.u8 0, Value.int IntKind.u8 0, Value.int IntKind.u8 0, Value.int IntKind.u8 0, Value.int IntKind.u8 0, Value.int IntKind.u8 0, Value.int IntKind.u8 0, Value.int IntKind.u8 0, Value.int IntKind.u8 0, Value.int IntKind.u8 0, Value.int IntKind.u8 0, Value.int IntKind.u8 0, Value.int IntKind.u8 0, Value.int IntKind.u8 0, Value.int IntKind.u8 0, Value.int IntKind.u8 0, Value.int IntKind.u8 0, Value.int IntKind.u8 0, Value.int IntKind.u8 0, Value.int IntKind.u8 0, Value.int IntKind.u8 0, Value.int IntKind.u8 0, Value.int IntKind.u8 0, Value.int IntKind.u8 0, Value.int IntKind.u8 0, Value.int IntKind.u8 0, Value.int IntKind.u8 0, Value.int IntKind.u8 0, Value.int IntKind.u8 0, Value.int IntKind.u8 0, Value.int IntKind.u8 0, Value.int IntKind.u8 0, Value.int IntKind.i64 0, Value.int IntKind.i64 0, Value.int IntKind.i64 0, Value.bool false] 188)) w.heap.size s := (at_new w s).later (below_alloc (Below.refl _ _) _)
 have a2 := atSt_lit (w.alloc (.cells (u8s s).toArray 84))
 rw [World.size_alloc] at a2
 have hbw := below_alloc (below_alloc (Below.refl w.heap.size w) (.cells (u8s s).toArray 84)) (.cells #[Value.int IntKind.i64 0, Value.int IntKind.u8 0, Value.int IntKind.u8 0, Value.int IntKind.u8 0, Value.int IntKind.u8 0, Value.int IntKind.u8 0, Value.int IntKind.u8 0, Value.int IntKind.u8 0, Value.int IntKind.u8 0, Value.int IntKind.u8 0, Value.int IntKind.u8 0, Value.int IntKind.u8 0, Value.int IntKind.u8 0, Value.int IntKind.u8 0, Value.int IntKind.u8 0, Value.int IntKind.u8 0, Value.int IntKind.u8 0, Value.int IntKind.u8 0, Value.int IntKind.u8 0, Value.int IntKind.u8 0, Value.int IntKind.u8 0, Value.int IntKind.u8 0, Value.int IntKind.u8 0, Value.int IntKind.u8 0, Value.int IntKind.u8 0, Value.int IntKind.u8 0, Value.int IntKind.u8 0, Value.int IntKind.u8 0, Value.int IntKind.u8 0, Value.int IntKind.u8 0, Value.int IntKind.u8 0, Value.int IntKind.u8 0, Value.int IntKind.u8 0, Value.int IntKind.i64 0, Value.int IntKind.i64 0, Value.int IntKind.i64 0, Value.bool false] 188)
 obtain ⟨W, hW⟩ : ∃ W, (w.alloc (.cells (u8s s).toArray 84)).alloc (.cells #[Value.int IntKind.i64 0, Value.int IntKind.u8 0, Value.int IntKind.u8 0, Value.int IntKind.u8 0, Value.int IntKind.u8 0, Value.int IntKind.u8 0, Value.int IntKind.u8 0, Value.int IntKind.u8 0, Value.int IntKind.u8 0, Value.int IntKind.u8 0, Value.int IntKind.u8 0, Value.int IntKind.u8 0, Value.int IntKind.u8 0, Value.int IntKind.u8 0, Value.int IntKind.u8 0, Value.int IntKind.u8 0, Value.int IntKind.u8 0, Value.int IntKind.u8 0, Value.int IntKind.u8 0, Value.int IntKind.u8 0, Value.int IntKind.u8 0, Value.int IntKind.u8 0, Value.int IntKind.u8 0, Value.int IntKind.u8 0, Value.int IntKind.u8 0, Value.int IntKind.u8 0, Value.int IntKind.u8 0, Value.int IntKind.u8 0, Value.int IntKind.u8 0, Value.int IntKind.u8 0, Value.int IntKind.u8 0, Value.int IntKind.u8 0, Value.int IntKind.u8 0, Value.int IntKind.i64 0, Value.int IntKind.i64 0, Value.int IntKind.i64 0, Value.bool false] 188) = W := ⟨_, rfl⟩
 rw [hW] at hbw a0 a2
 have HB0 := Lib.hid hbw
 have A0 := Lib.hid a0
 have A2 := Lib.hid a2
 clear hs hbw a0 a2 hb
 go_enter Tryz.func210, Tryz.ntmps210
 go_upto_region 1 with fail
 try rw [hW]
 clear hW
 have h0 : dsk.Touch (fun k => k = w.heap.size + 1) W.drew W.drew := dsk.Touch.refl _ _
 have HAT := Lib.hid fun v (hv : dsk.Touch (fun k => k = w.heap.size + 1) W.drew v) => (show At v w.heap.size s from (hv.block _ (Array.getElem?_eq_some_iff.1 A0.out).1 (by omega)).trans A0.out)
 refine wp_region_held_drew (S := dsk.Touch (fun k => k = w.heap.size + 1) W.drew) (by kernel_rfl) h0 (fun hH0 => ?_)
 refine wpAnyH_take (i := 0) (oi := { dst := some 7, op := Op.move (Operand.tmp 1), type := 3, pos := "steps.go:62", after := #[], guard := none }) (v := ?_) rfl (by kernel_rfl) (by kernel_rfl) (by kernel_rfl) (fun _ _ _ h => h) (Or.inl ⟨by rfl, ?_⟩) (by assumption) ?_
 rotate_left
 ·(intro w' hSw; go_simp; try with_reducible rfl)
 try simp only [Act.put, List.setIfInBounds_toArray, List.set_cons_zero, List.set_cons_succ]
 refine' wpAnyH_take (i := 2) (oi := { dst := some 9, op := Op.load 84 (Operand.tmp 5), type := 84, pos := "steps.go:62", after := #[], guard := none }) (v := _) rfl (by kernel_rfl) (by kernel_rfl) (by kernel_rfl) (fun _ _ _ h => h) (ld_sec (by rfl) _ rfl w.heap.size 0 rfl s HS.out.1 (fun w' hw => (HAT.out w' hw).range)) (by assumption) ?_
 try simp only [Act.put, List.setIfInBounds_toArray, List.set_cons_zero, List.set_cons_succ]
 refine wpAnyH_take (i := 3) (oi := { dst := some 10, op := Op.move (Operand.tmp 0), type := 3, pos := "steps.go:62", after := #[], guard := none }) (v := ?_) rfl (by kernel_rfl) (by kernel_rfl) (by kernel_rfl) (fun _ _ _ h => h) (Or.inl ⟨by rfl, ?_⟩) (by assumption) ?_
 rotate_left
 ·(intro w' hSw; go_simp; try with_reducible rfl)
 try simp only [Act.put, List.setIfInBounds_toArray, List.set_cons_zero, List.set_cons_succ]
 refine wpAnyH_ready (rs := [1]) (by kernel_rfl) (by simp) ?_
 refine AllReadyH.cons (o := { dst := some 8, op := Op.call { callee := Callee.value (Operand.func 150), args := #[Operand.tmp 7], argTypes := #[3] }, type := 3, pos := "steps.go:62", after := #[{ on := 0, ground := Ground.data }], guard := none }) rfl (fun K hK => ?_) AllReadyH.nil
 go_simp
 refine (HB.out _).mono ?_
 rintro e v1 ⟨rfl, hv1⟩
 obtain rfl := hv1
 have h1 := h0
 dsimp only
 refine hK.out _ _ ?_ (fun hHeld => ?_)
 ·exact h1
 clear hK K
 try simp only [Act.put, List.setIfInBounds_toArray, List.set_cons_zero, List.set_cons_succ]
 refine wpAnyH_ready (rs := [4]) (by kernel_rfl) (by simp) ?_
 refine AllReadyH.cons (o := { dst := some 11, op := Op.call { callee := Callee.value (Operand.func 183), args := #[Operand.tmp 8, Operand.tmp 9, Operand.const (Value.int IntKind.i64 1), Operand.tmp 10], argTypes := #[3, 84, 3, 3] }, type := 188, pos := "steps.go:62", after := #[{ on := 1, ground := Ground.data }, { on := 2, ground := Ground.data }, { on := 3, ground := Ground.data }, { on := 1, ground := Ground.chain }], guard := none }) rfl (fun K hK => ?_) AllReadyH.nil
 go_simp
 refine (HT.out _).mono ?_
 rintro e v2 ⟨rfl, hv2⟩
 have h2 := h1.trans (dsk.Touch.of_below hv2)
 have AS := Lib.hid (AtSt.later (w := W.drew) A2.out hv2)
 have BS := Lib.hid (HB0.out.trans (((Below.refl w.heap.size W).drew).trans (hv2.mono HB0.out.size)))
 dsimp only
 refine hK.out _ _ ?_ (fun hHeld => ?_)
 ·exact h2
 clear hK K
 try simp only [Act.put, List.setIfInBounds_toArray, List.set_cons_zero, List.set_cons_succ]
 refine wpAnyH_ready (rs := [5]) (by kernel_rfl) (by simp) ?_
 refine AllReadyH.cons (o := { dst := none, op := Op.store 188 (Operand.tmp 6) (Operand.tmp 11), type := 0, pos := "steps.go:62", after := #[{ on := 4, ground := Ground.data }, { on := 4, ground := Ground.chain }, { on := 0, ground := Ground.phase }, { on := 1, ground := Ground.phase }, { on := 2, ground := Ground.phase }, { on := 3, ground := Ground.phase }, { on := 4, ground := Ground.phase }], guard := none }) rfl (fun K hK => ?_) AllReadyH.nil
 refine step_store_st (by rfl) (.tmp 6) (.tmp 11) rfl (w.heap.size + 1) rfl X w0 false false rfl HX.out sec_zero AS.out ?_
 intro v3 hA3 hB3 hT3
 have X5 := Lib.hid hA3
 have B5 := Lib.hid (BS.out.trans (hB3.mono (show w.heap.size ≤ w.heap.size + 1 by omega)))
 have h3 : dsk.Touch (fun k => k = w.heap.size + 1) W.drew v3 := h2.trans hT3
 dsimp only
 refine hK.out _ _ ?_ (fun hHeld => ?_)
 ·exact h3
 clear hK K
 try simp only [Act.put, List.setIfInBounds_toArray, List.set_cons_zero, List.set_cons_succ]
 refine wpAnyH_done (by kernel_rfl) ?_ _
 go_wp2_with fail
 exact ret_st1 rfl (w.heap.size + 1) X false rfl HX.out X5.out rfl ⟨rfl, B5.out⟩
end fs
namespace fs
set_option maxRecDepth 100000
open Go.ChangeShapes Go.WideShapes Go.ChangeAt Go.RowKit
open rows
open sec
open dsk (build_one Wr.c rd_laid)
open ly
open pa
open lk
open al
def contL (L : List (List Int)) (b : List Int) (j : Nat) : List (List Int) := (List.range j).map fun i => contV L (b.getD i 0)
theorem contL_succ (L : List (List Int)) (b : List Int) (j : Nat) : contL L b (j + 1) = contL L b j ++ [contV L (b.getD j 0)] := by simp [contL, List.range_succ]
theorem contL_secs {L : List (List Int)} (hs : Secs L) (b : List Int) (j : Nat) : Secs (contL L b j) := fun s hm => by
 obtain ⟨i, _, rfl⟩ := List.mem_map.1 hm
 exact contV_sec hs _
theorem flat_at : ∀ (l : List (List Int)), (∀ x ∈ l, x.length = 32) → ∀ i : Nat, l.flatten[i]? = (l[i / 32]?).bind (fun x => x[i % 32]?)
 | [], _, i => by simp
 | x :: t, h, i => by
  have hx := h x (List.mem_cons_self ..)
  rw [List.flatten_cons]
  by_cases hi : i < 32
  ·rw [List.getElem?_append_left (by omega), show i / 32 = 0 by omega, show i % 32 = i by omega]
   rfl
  ·rw [List.getElem?_append_right (by omega), hx, flat_at t (fun y hy => h y (List.mem_cons_of_mem _ hy)), show i / 32 = (i - 32) / 32 + 1 by omega, List.getElem?_cons_succ, show (i - 32) % 32 = i % 32 by omega]
theorem gather_read {L : List (List Int)} (hs : Secs L) (x : Ino) (zn nd : Nat) (hz : x.size = (zn : Int)) (hnd : zn ≤ 32 * nd) (hb : ∀ i : Nat, (i : Int) < zn → 1 ≤ x.b.getD (i / 32) 0 ∧ x.b.getD (i / 32) 0 ≤ 24) : (contL L x.b nd).flatten.take zn = readL L x := by
 have hc := contL_secs hs x.b nd
 have hlen : (contL L x.b nd).flatten.length = nd * 32 := by
  have := cellsOf_len hc
  rw [cellsOf, u8s, List.length_map, show (contL L x.b nd).length = nd by simp [contL]] at this
  exact this
 apply List.ext_getElem?
 intro i
 by_cases hi : i < zn
 ·rw [List.getElem?_take_of_lt hi, flat_at _ (fun y hy => (hc y hy).1)]
  have h1 : i / 32 < nd := by omega
  have h2 : (contL L x.b nd)[i / 32]? = some (contV L (x.b.getD (i / 32) 0)) := by simp [contL, h1]
  have hbi := hb i (by omega)
  have h4 : (readL L x)[i]? = some (byteAt L x i) := by simp [readL, hz, hi]
  rw [show byteAt L x i = (L.getD (40 + (x.b.getD (i / 32) 0).toNat) zero32).getD (i % 32) 0 from rfl] at h4
  generalize x.b.getD (i / 32) 0 = bb at *
  have h3 : contV L bb = L.getD (40 + bb.toNat) zero32 := by
   rw [contV, if_neg (by omega), secAt]
   split
   ·rw [show (40 + bb).toNat = 40 + bb.toNat by omega]
   ·rename_i hh
    have : L.length ≤ 40 + bb.toNat := by omega
    simp only [List.getD, List.getElem?_eq_none this, Option.getD_none]
  have hsec := contV_sec hs bb
  rw [h2, h4, Option.bind_some, ← h3]
  generalize contV L bb = cc at *
  have hm : i % 32 < cc.length := by rw [hsec.1]; omega
  rw [List.getElem?_eq_getElem hm]
  simp only [List.getD, List.getElem?_eq_getElem hm, Option.getD_some]
 ·rw [List.getElem?_eq_none (by rw [List.length_take, hlen]; omega), List.getElem?_eq_none (by simp [readL, hz]; omega)]
set_option maxRecDepth 100000 in
set_option maxHeartbeats 3200000 in
theorem fread (w : World) (g : Nat) (d : Value) (ss : List (List Int)) (s : ByteArray) (h : FK w g d ss) (hm : Mx w) (hsz : s.size ≤ 100000) :
  Calls Tryz.prog 32 #[.pointer (some ⟨g, 0, none⟩), .string s] w fun e w' => ∃ p n c, e = .returned (.tuple #[.slice p n c, .int .i64 (readV ss s).2]) ∧ n = (readV ss s).1.length ∧ Rd w' 1 (.slice p n c) n ((readV ss s).1.map (Value.int .u8)) ∧ Below w.heap.size w w' := by
 have HK := Lib.hid h
 have hs := h.dk.secs.1
 have HF := Lib.hid (ffile w g d ss s h hm hsz)
 have hfo := file_ok hs s
 have H4 := Lib.hid (file_four hs s)
 obtain ⟨V, HV⟩ : ∃ V, readV ss s = V := ⟨_, rfl⟩
 rw [HV]
 unfold readV at HV
 unfold fileT at HF
 generalize fileV ss s = fv at *
 obtain ⟨z, x, e2⟩ := fv
 simp only at HF HV hfo H4
 by_cases he2 : e2 = 0
 ·subst he2
  rw [if_neg (by simp)] at HV
  subst HV
  obtain ⟨y, rfl, hk⟩ := hfo rfl
  obtain ⟨f0, f1, f2⟩ := ino_file hs y hk
  generalize inoAt ss y = x at *
  obtain ⟨zn, hzn⟩ := Int.eq_ofNat_of_zero_le f0
  have hzi : zn ≤ 128 := by omega
  have hnd4 : need zn ≤ 4 := by unfold need; omega
  have hnz : zn ≤ 32 * need zn := by unfold need; omega
  have hzd : ∀ j, j < need zn → 32 * j < zn := by unfold need; intro j hj; omega
  rw [hzn] at f2
  have HGR := Lib.hid (gather_read hs x zn (need zn) hzn hnz f2)
  have HRL : Hid ((readL ss x).length = zn) := Lib.hid (by simp [readL, hzn])
  have HBD : Hid (∀ j, j < need zn → 0 ≤ x.b.getD j 0 ∧ x.b.getD j 0 ≤ 200) := Lib.hid fun j hj => by
   have := f2 (32 * j) (by have := hzd j hj; omega)
   rw [show 32 * j / 32 = j by omega] at this
   omega
  have HNE := Lib.hid fun w' => frequired zn (by omega) w'
  have HSE := Lib.hid fun j => contL_secs hs x.b j
  have HSC := Lib.hid fun b => contV_sec hs b
  have HSU := Lib.hid fun j => contL_succ ss x.b j
  have HGT := Lib.hid fun p c (w' : World) (hr : Rd w' 32 (.slice p (need zn) c) (need zn) (cellsOf (contL ss x.b (need zn)))) => gather_is p (need zn) c (contL ss x.b (need zn)) (zn : Int) w' (WalkArith.wf_i64 (by omega)) (contL_secs hs x.b _) hr (by omega)
  have hgo : gOk (need zn) (zn : Int) = true := by simp [gOk]; omega
  have HGT2 : Hid (∀ p c (w' : World), Rd w' 32 (.slice p (need zn) c) (need zn) (cellsOf (contL ss x.b (need zn))) → Calls Tryz.prog 93 #[.slice p (need zn) c, .int .i64 (zn : Int)] w' fun e w'' => ∃ p' c', e = .returned (.tuple #[.slice p' zn c', .bool true]) ∧ Rd w'' 1 (.slice p' zn c') zn (u8s (readL ss x)) ∧ Below w'.heap.size w' w'') := Lib.hid fun p c w' hr => by
   have h := HGT.out p c w' hr
   rw [hgo] at h
   unfold gN gOf at h
   rw [hgo] at h
   simp only [if_true, Int.toNat_natCast] at h
   rw [HGR.out] at h
   exact h
  generalize readL ss x = RL at *
  generalize need zn = nd at *
  have hndi : (nd : Int) ≤ 4 := by omega
  clear h hs hfo f2 f0 f1 hk hm hsz hgo HGT HGR hnz hzd
  have HZ := Lib.hid hzn
  clear hzn
  go_enter Tryz.func32, Tryz.ntmps32
  go_upto_region 5 with (first
   | (go_at_call 90; refine HF.out.mono ?_; rintro e w2 ⟨rfl, hb⟩; have B2 := Lib.hid hb; clear hb)
   | (refine store_ino rfl (.tmp 7) (.tmp 19) rfl rfl w2.heap.size x ino0 rfl rfl H4.out rfl (atI_lit w2) ?_; intro w3 hA hB _; have B3 := Lib.hid (below_trans B2.out ((below_alloc (Below.refl _ w2) _).trans hB)); have A3 := Lib.hid hA; have c1 := hA.cell1; rw [HZ.out] at c1; clear hA hB))
  go_wp2_with (go_at_call 91; refine (HNE.out _).mono ?_; rintro e w4 ⟨rfl, hw4⟩; obtain rfl := hw4)
  have hgl : w2.heap.size < w3.heap.size := (Array.getElem?_eq_some_iff.1 A3.out).1
  go_loopw [9, 11, 30] (fun ov _ iv wr => ∃ (j : Nat) (q : Option Addr) (kc : Nat), j ≤ nd ∧ iv = .int .i64 (j : Int) ∧ ov = .slice q j kc ∧ Hid (rows.Own wr w3.heap.size 84 32 (.slice q j kc) j (cellsOf (contL ss x.b j))) ∧ Hid (Below w3.heap.size w3 wr)) (fun _ _ iv _ => nd - (intOf iv).toNat)
  case atStart => exact ⟨0, none, 0, by omega, rfl, rfl, Lib.hid (by simp [contL, cellsOf, u8s]; exact own_nil _ _ _ _), Lib.hid (Below.refl _ _)⟩
  case round =>
   obtain ⟨j, q, kc, hj, rfl, rfl, HO, HB⟩ := hrel
   clear c1
   have AW := Lib.hid (A3.out.later HB.out)
   by_cases hlt : j < nd
   ·have hlti : (j : Int) < nd := by omega
    have cb := AW.out.cellb (i := j) (by rw [H4.out]; omega)
    have hbd := HBD.out j hlt
    have HCO := Lib.hid fun w' (hb : Below w.heap.size w w') => fcontent w' g d ss (x.b.getD j 0) (HK.out.later hb) hbd
    have HSX := Lib.hid (HSC.out (x.b.getD j 0))
    have HSN := Lib.hid (HSU.out j)
    generalize x.b.getD j 0 = bj at *
    generalize contV ss bj = cs at *
    go_wp2_with (first
     | (go_at_call 92; refine (HCO.out _ (below_trans B3.out HB.out)).mono ?_; rintro e w5 ⟨rfl, hb⟩; have HO5 := Lib.hid (own_later HO.out hb); have B5 := Lib.hid (below_trans HB.out hb); clear hb)
     | (refine build_one elem_secs (by decide) rfl (.tmp 37) rfl (u8s cs) rfl (by simp [u8s, HSX.out.1]) ?_)
     | (at_builtin; refine ap_rd elem_secs rfl (.tmp 34) (.tmp 38) rfl w3.heap.size _ j _ rfl (HO5.out.alloc _) _ 1 (u8s cs) rfl (rd_laid _ 84 32 (u8s cs) (by simp [u8s, HSX.out.1])) (one_ints .u8 _) (by omega) (by have := B5.out.size; simp; omega) ?_; intro pa ca wa ho hb; have HO6 : Hid (rows.Own wa w3.heap.size 84 32 (.slice pa (j + 1) ca) (j + 1) (cellsOf (contL ss x.b (j + 1)))) := Lib.hid (by rw [HSN.out, cellsOf_append]; simpa [cellsOf] using ho); have B6 := Lib.hid (below_trans' (below_alloc B5.out _) hb (Nat.le_refl _)); clear ho hb))
    go_roundw
    case rel => exact ⟨j + 1, pa, ca, by omega, by go_num, rfl, HO6, B6⟩
    case measure => simp [intOf]; omega
   ·obtain rfl : j = nd := by omega
    have c1 := AW.out.cell1
    rw [HZ.out] at c1
    go_wp2_with (go_at_call 93; refine (HGT2.out _ _ _ HO.out.rd).mono ?_; rintro e w9 ⟨p', c', rfl, hr, hb⟩; have R9 := Lib.hid hr; have B9 := Lib.hid (below_trans (below_trans B3.out HB.out) hb); clear hr hb)
    go_ret2
    exact ⟨p', zn, c', rfl, HRL.out.symm, R9.out, B9.out⟩
 ·rw [if_pos he2] at HV
  subst HV
  have hne : (e2 != 0) = true := by simpa using he2
  clear hfo h hm hsz hs
  go_enter Tryz.func32, Tryz.ntmps32
  go_wp2_with (first
   | (go_at_call 90; refine HF.out.mono ?_; rintro e w2 ⟨rfl, hb⟩; have B2 := Lib.hid hb; clear hb)
   | (refine store_ino rfl (.tmp 7) (.tmp 19) rfl rfl w2.heap.size x ino0 rfl rfl H4.out rfl (atI_lit w2) ?_; intro w3 hA hB _; have B3 := Lib.hid (below_trans B2.out ((below_alloc (Below.refl _ w2) _).trans hB)); clear hA hB))
  go_ret2
  exact ⟨none, 0, 0, rfl, rfl, rd_nil _ 1, B3.out⟩
end fs
namespace fs
set_option maxRecDepth 100000
open Go.ChangeShapes Go.WideShapes Go.ChangeAt Go.RowKit
open rows
open sec
open dsk (St Wr Wr.ok Wr.c fill_part rd_laid)
open ly
open pa
open lk
open al
theorem perf_one {G : Nat → Prop} {g : Nat} {d : Value} {st : St} {w : World} (hGl : ∀ b, G b → b < w.heap.size) (h : FsAt w G g d st) {k : Nat} (hg : st.good k) (hk : k + 20 ≤ 900) (x : Wr) (b : Bool) (hx : x.ok) (w1 : World) (hb : Below w.heap.size w w1) :
  Calls Tryz.prog 129 #[.pointer (some ⟨g, 0, none⟩), .slice (some ⟨w1.heap.size, 0, none⟩) 1 1] (w1.alloc (.cells (stC x b).toArray 188)) (fun e w' => PDone G g d w (runV st [(x, b)]) e w' ∧ dsk.Touch G (w1.alloc (.cells (stC x b).toArray 188)) w') :=
 (fperform G g d st [(x, b)] (some ⟨w1.heap.size, 0, none⟩) 1 1 (w1.alloc (.cells (stC x b).toArray 188)) (h.later (below_alloc hb _)) k hg (by omega) (by omega) (by
  have := rd_laid w1 188 37 (stC x b) (stC_len hx.1)
  simpa [stsC, pstC] using this) (fun a m c hv hm hh => by
  cases hv
  have h1 := hGl _ hh
  have := hb.size
  have h2 : w1.heap.size < w.heap.size := h1
  omega) (fun y hy => by rw [List.mem_singleton.1 hy]; exact hx)).mono fun e w' hd => ⟨pdone_from h.row.lt h.apart (below_alloc hb _) hd, hd.2.2⟩
theorem rd_two_st (w : World) (x y : Wr) (b c : Bool) (hx : Sec x.s) (hy : Sec y.s) : Rd (w.alloc (.cells (stC x b ++ stC y c).toArray 188)) 37 (.slice (some ⟨w.heap.size, 0, none⟩) 2 2) 2 (stsC [(x, b), (y, c)]) := by
 have e : stsC [(x, b), (y, c)] = stC x b ++ stC y c := by simp [stsC, pstC]
 rw [e]
 refine Or.inr ⟨w.heap.size, 0, 2, rfl, by omega, Nat.le_refl _, by unfold maxLen; omega, by simp, by simp [stC_len hx, stC_len hy], fun i u hi => ?_⟩
 rw [Nat.zero_add, World.cell?_alloc_new]
 simpa using hi
theorem perf_two {G : Nat → Prop} {g : Nat} {d : Value} {st : St} {w : World} (hGl : ∀ b, G b → b < w.heap.size) (h : FsAt w G g d st) {k : Nat} (hg : st.good k) (hk : k + 20 ≤ 900) (x y : Wr) (b c : Bool) (hx : x.ok) (hy : y.ok) (w1 : World) (hb : Below w.heap.size w w1) :
  Calls Tryz.prog 129 #[.pointer (some ⟨g, 0, none⟩), .slice (some ⟨w1.heap.size, 0, none⟩) 2 2] (w1.alloc (.cells (stC x b ++ stC y c).toArray 188)) (fun e w' => PDone G g d w (runV st [(x, b), (y, c)]) e w' ∧ dsk.Touch G (w1.alloc (.cells (stC x b ++ stC y c).toArray 188)) w') :=
 (fperform G g d st [(x, b), (y, c)] (some ⟨w1.heap.size, 0, none⟩) 2 2 (w1.alloc (.cells (stC x b ++ stC y c).toArray 188)) (h.later (below_alloc hb _)) k hg (by omega) (by omega) (rd_two_st w1 x y b c hx.1 hy.1) (fun a m c' hv hm hh => by
  cases hv
  have h1 := hGl _ hh
  have := hb.size
  have h2 : w1.heap.size < w.heap.size := h1
  omega) (fun z hz => by
  rcases List.mem_cons.1 hz with rfl | hz
  ·exact hx
  ·rw [List.mem_singleton.1 hz]; exact hy)).mono fun e w' hd => ⟨pdone_from h.row.lt h.apart (below_alloc hb _) hd, hd.2.2⟩
theorem fill_twoT (cs ds : List Value) (u v : Value) (hu : u.cells = cs.toArray) (hv : v.cells = ds.toArray) (hs : cs.length = 37) (hd : ds.length = 37) (old : Array Value) (ho : old.size = 74) : Instr.fill (fun i => some (i * 37, 37)) old [(0, u), (1, v)] = some (cs ++ ds).toArray := by
 have e : old = old.toList.toArray := by simp
 have hol : old.toList.length = 74 := by simpa using ho
 generalize old.toList = l at *
 subst e
 rw [fill_part _ _ 0 0 37 u cs _ (by simp) hu hs (by omega), fill_part _ _ 1 37 37 v ds _ (by simp) hv hd (by simp [hs]; omega)]
 have e1 : (l.take 0 ++ cs ++ l.drop (0 + 37)).take 37 = cs := by
  rw [List.take_zero, List.nil_append, List.take_left' hs]
 have e2 : (l.take 0 ++ cs ++ l.drop (0 + 37)).drop (37 + 37) = [] := by
  apply List.drop_of_length_le
  simp [hs]; omega
 rw [e1, e2, List.append_nil]
 rfl
theorem step_two_st {ops : Array Oper} {o : Oper} {a : Act} {w : World} {K : Act → World → Prop} {Q : Exit → Act → World → Prop} {F : Prop} (hw : Region.wanted o (yielded ops a.tmps) = true) (x y : Operand) (ho : o.op = .buildSlice 239 2 #[(0, x), (1, y)])
  (p q : Wr) (b c : Bool) (hp : Sec p.s) (hq : Sec q.s) (hx : a.eval x = aggT p b) (hy : a.eval y = aggT q c) (h : K (a.put o.dst (.slice (some ⟨w.heap.size, 0, none⟩) 2 2)) (w.alloc (.cells (stC p b ++ stC q c).toArray 188))) : if Region.wanted o (yielded ops a.tmps) = true then Oper.wp Tryz.prog o a w K Q else F := by
 rw [if_pos hw]
 obtain ⟨ie, hi, hz0, hz1, hz2⟩ := info_parts elem_sts.info
 refine wp_buildSlice 239 188 2 #[(0, x), (1, y)] ho (stC p b ++ stC q c).toArray ie _ elem_sts.und hi hz0 (by rw [hz1]; omega) (by rw [hz1]; omega) ?_ h
 rw [hz1]
 simp only [List.map_toArray, List.map_cons, List.map_nil, hx, hy]
 exact fill_twoT (stC p b) (stC q c) _ _ rfl rfl (stC_len hp) (stC_len hq) _ (by simp)
theorem run_one (st : St) (x : Wr) : runV st [(x, false)] = doR st [x] := run_plain [x] st
theorem run_two (st : St) (x y : Wr) : runV st [(x, false), (y, false)] = doR st [x, y] := run_plain [x, y] st
set_option maxRecDepth 100000 in
set_option maxHeartbeats 3200000 in
theorem fadd (G : Nat → Prop) (g : Nat) (d : Value) (st : St) (w : World) (hGl : ∀ b, G b → b < w.heap.size) (h : FsAt w G g d st) (k : Nat) (hg : st.good k) (hk : k + 20 ≤ 900) (hm : Mx w) (s : ByteArray) (hsz : s.size ≤ 100000) (kind : Int) (hkd : 0 ≤ kind ∧ kind < 256) :
  Calls Tryz.prog 126 #[.pointer (some ⟨g, 0, none⟩), .string s, .int .i64 kind] w (PDone G g d w (makeV st s kind)) := by
 have HR := Lib.hid h
 have HK := h.known hg (by omega)
 have hsec := HK.dk.secs.1
 have HLo := Lib.hid (flocate w g d (nowL st) s HK hm hsz)
 have hpf := place_fine hsec s
 have HFI := Lib.hid fun w' (hb : Below w.heap.size w w') => cinode_any w' d (nowL st) (HK.later hb).dk
 have HFE := Lib.hid fun w' (hb : Below w.heap.size w w') => cslot_any w' d (nowL st) (HK.later hb).dk
 have HNM := Lib.hid (show (placeV (nowL st) s).1.name.size ≤ maxLen by have := place_name (nowL st) s; unfold maxLen; omega)
 have HP2 := Lib.hid fun x y b c (hx : x.ok) (hy : y.ok) w1 (hb : Below w.heap.size w w1) => perf_two hGl h hg hk x y b c hx hy w1 hb
 have HGL := Lib.hid h.row.lt
 have HAP := Lib.hid h.apart
 have HGl := Lib.hid hGl
 have HKx := Lib.hid HK
 obtain ⟨V, hV⟩ : ∃ V, makeV st s kind = V := ⟨_, rfl⟩
 rw [hV]
 unfold makeV at hV
 have hfi : ∀ n, frI (nowL st) = some n → n < 16 := fun n hn => (upto_some hn).1
 have hfe : ∀ n, frE (nowL st) = some n → n < 24 := fun n hn => (upto_some hn).1
 generalize placeV (nowL st) s = P at *
 obtain ⟨sp, er⟩ := P
 simp only at hV HLo hpf HNM
 obtain ⟨sd, sn, sk, si⟩ := sp
 simp only at hV hpf HNM
 generalize frI (nowL st) = fi at *
 generalize frE (nowL st) = fe at *
 change Hid (Calls _ _ _ _ fun e w' => e = Ending.returned (.tuple #[aggP ⟨sd, sn, si, sk, if si then (entAt (nowL st) sk).target else 0⟩, .int .i64 er]) ∧ _) at HLo
 generalize (if si then (entAt (nowL st) sk).target else 0) = tg at *
 generalize nowL st = L at *
 clear h hg hk hm hsz hsec hGl HK
 by_cases he : er = 0
 ·subst he
  rw [if_neg (by simp)] at hV
  cases si with
  | true =>
   rw [if_pos rfl] at hV
   subst hV
   clear HP2
   go_enter Tryz.func126, Tryz.ntmps126
   go_wp2_with (first | (go_at_call 95; refine HLo.out.mono ?_; rintro e w1 ⟨rfl, hb⟩; have B1 := Lib.hid hb; clear hb) | (refine store_plc rfl (.tmp 7) (.tmp 16) rfl rfl w1.heap.size ⟨sd, sn, true, sk, tg⟩ plc0 rfl rfl (atP_lit w1) ?_; intro w2 hA hB; have B2 := Lib.hid (below_trans B1.out ((below_alloc (Below.refl _ w1) _).trans hB)); have c2 : w2.cell? ⟨w1.heap.size, 2, none⟩ = some (.bool true) := hA.cell2; clear hA hB))
   go_ret
   exact pdone_same HR.out B2.out
  | false =>
   rw [if_neg (by decide)] at hV
   cases fi with
   | none =>
    have hV2 : V = (2, st) := by rw [← hV]
    subst hV2
    rw [optV_none] at HFI
    clear hV HP2
    go_enter Tryz.func126, Tryz.ntmps126
    go_wp2_with (first | (go_at_call 95; refine HLo.out.mono ?_; rintro e w1 ⟨rfl, hb⟩; have B1 := Lib.hid hb; clear hb) | (refine store_plc rfl (.tmp 7) (.tmp 16) rfl rfl w1.heap.size ⟨sd, sn, false, sk, tg⟩ plc0 rfl rfl (atP_lit w1) ?_; intro w2 hA hB; have B2 := Lib.hid (below_trans B1.out ((below_alloc (Below.refl _ w1) _).trans hB)); have c2 : w2.cell? ⟨w1.heap.size, 2, none⟩ = some (.bool false) := hA.cell2; have d2 := (HKx.out.later B2.out).row.disk; clear hA hB) | (go_at_call 176; refine (HFI.out _ B2.out).mono ?_; rintro e w3 ⟨rfl, hb⟩; have B3 := Lib.hid (below_trans B2.out hb); clear hb))
    go_ret
    exact pdone_same HR.out B3.out
   | some ni =>
    rw [optV_some] at HFI
    cases fe with
    | none =>
     have hV2 : V = (2, st) := by rw [← hV]
     subst hV2
     rw [optV_none] at HFE
     clear hV HP2
     go_enter Tryz.func126, Tryz.ntmps126
     go_wp2_with (first | (go_at_call 95; refine HLo.out.mono ?_; rintro e w1 ⟨rfl, hb⟩; have B1 := Lib.hid hb; clear hb) | (refine store_plc rfl (.tmp 7) (.tmp 16) rfl rfl w1.heap.size ⟨sd, sn, false, sk, tg⟩ plc0 rfl rfl (atP_lit w1) ?_; intro w2 hA hB; have B2 := Lib.hid (below_trans B1.out ((below_alloc (Below.refl _ w1) _).trans hB)); have c2 : w2.cell? ⟨w1.heap.size, 2, none⟩ = some (.bool false) := hA.cell2; have d2 := (HKx.out.later B2.out).row.disk; clear hA hB) | (go_at_call 176; refine (HFI.out _ B2.out).mono ?_; rintro e w3 ⟨rfl, hb⟩; have B3 := Lib.hid (below_trans B2.out hb); have d3 := (HKx.out.later B3.out).row.disk; clear hb) | (go_at_call 154; refine (HFE.out _ B3.out).mono ?_; rintro e w4 ⟨rfl, hb⟩; have B4 := Lib.hid (below_trans B3.out hb); clear hb))
     go_ret
     exact pdone_same HR.out B4.out
    | some ke =>
     have hn16 := hfi ni rfl
     have hk24 := hfe ke rfl
     rw [optV_some] at HFE
     have okN : (⟨kind, 0, [0, 0, 0, 0]⟩ : Ino).ok := ino_new_ok hkd
     have okT : (⟨true, sd, sn, (ni : Int)⟩ : Ent).ok := ⟨wf_byte (by show 0 ≤ sd ∧ sd < 256; omega), wf_byte (by show 0 ≤ (ni : Int) ∧ (ni : Int) < 256; omega), HNM.out⟩
     have HI := Lib.hid fun w' => finodeStep (ni : Int) (by omega) ⟨kind, 0, [0, 0, 0, 0]⟩ okN w'
     change Hid (∀ w', Calls _ _ #[.int .i64 (ni : Int), .agg #[.int .i64 kind, .int .i64 0, .int .i64 0, .int .i64 0, .int .i64 0, .int .i64 0]] _ _) at HI
     have HE := Lib.hid fun w' => fentryStep (ke : Int) (by omega) ⟨true, sd, sn, (ni : Int)⟩ okT w'
     change Hid (∀ w', Calls _ _ _ _ fun e w'' => e = Ending.returned (aggT (wEnt (ke : Int) ⟨true, sd, sn, (ni : Int)⟩ sd) false) ∧ _) at HE
     have HEN := Lib.hid fun w' => fentry ⟨sd, sn, false, sk, tg⟩ (ni : Int) w'
     have okI := wIno_ok (n := (ni : Int)) (x := ⟨kind, 0, [0, 0, 0, 0]⟩) (by omega) rfl
     have okE := wEnt_ok (k := (ke : Int)) (f := sd) (x := ⟨true, sd, sn, (ni : Int)⟩) (by omega) (by omega)
     simp only at hV
     change doR st [wIno (ni : Int) ⟨kind, 0, [0, 0, 0, 0]⟩, wEnt (ke : Int) ⟨true, sd, sn, (ni : Int)⟩ sd] = V at hV
     have HPF := Lib.hid fun w1 hb => HP2.out _ _ false false okI okE w1 hb
     rw [run_two, hV] at HPF
     generalize wIno (ni : Int) ⟨kind, 0, [0, 0, 0, 0]⟩ = x1 at *
     generalize wEnt (ke : Int) ⟨true, sd, sn, (ni : Int)⟩ sd = x2 at *
     have OI := Lib.hid okI
     have OE := Lib.hid okE
     clear hfi hfe okI okE HP2 hV okN okT
     go_enter Tryz.func126, Tryz.ntmps126
     go_upto_region 12 with (first | (go_at_call 95; refine HLo.out.mono ?_; rintro e w1 ⟨rfl, hb⟩; have B1 := Lib.hid hb; clear hb) | (refine store_plc rfl (.tmp 7) (.tmp 16) rfl rfl w1.heap.size ⟨sd, sn, false, sk, tg⟩ plc0 rfl rfl (atP_lit w1) ?_; intro w2 hA hB; have B2 := Lib.hid (below_trans B1.out ((below_alloc (Below.refl _ w1) _).trans hB)); have c2 : w2.cell? ⟨w1.heap.size, 2, none⟩ = some (.bool false) := hA.cell2; have d2 := (HKx.out.later B2.out).row.disk; have P2 := Lib.hid hA; clear hA hB) | (go_at_call 176; refine (HFI.out _ B2.out).mono ?_; rintro e w3 ⟨rfl, hb⟩; have B3 := Lib.hid (below_trans B2.out hb); have d3 := (HKx.out.later B3.out).row.disk; have P3 := Lib.hid (P2.out.later hb); clear hb) | (go_at_call 154; refine (HFE.out _ B3.out).mono ?_; rintro e w4 ⟨rfl, hb⟩; have B4 := Lib.hid (below_trans B3.out hb); have P4 := Lib.hid (P3.out.later hb); clear hb))
     clear c2 d2 d3
     have hNG : ¬ G w1.heap.size := fun hh => by have := HGl.out _ hh; have := B1.out.size; omega
     have HPd := Lib.hid fun v (hv : dsk.Touch G w4.drew v) => (AtP.touch (w := w4.drew) P4.out hv hNG)
     have hBd : Hid (∀ v, Below w4.drew.heap.size w4.drew v → Below w.heap.size w v) := Lib.hid fun v hv => below_trans B4.out (((Below.refl w4.heap.size w4).drew).trans hv)
     have h0 := dsk.Touch.refl G w4.drew
     have b0 : Below w4.drew.heap.size w4.drew w4.drew := Below.refl _ _
     refine wp_region_held_drew (S := dsk.Touch G w4.drew) (by kernel_rfl) h0 (fun hH0 => ?_)
     refine wpAnyH_take (i := 0) (oi := { dst := some 43, op := Op.move (Operand.tmp 0), type := 33, pos := "sfs.go:116", after := #[], guard := none }) (v := ?_) rfl (by kernel_rfl) (by kernel_rfl) (by kernel_rfl) (fun _ _ _ h => h) (Or.inl ⟨by rfl, ?_⟩) (by assumption) ?_
     rotate_left
     ·(intro w' hSw; go_simp; try with_reducible rfl)
     try simp only [Act.put, List.setIfInBounds_toArray, List.set_cons_zero, List.set_cons_succ]
     refine wpAnyH_take (i := 1) (oi := { dst := some 44, op := Op.move (Operand.tmp 9), type := 3, pos := "sfs.go:116", after := #[], guard := none }) (v := ?_) rfl (by kernel_rfl) (by kernel_rfl) (by kernel_rfl) (fun _ _ _ h => h) (Or.inl ⟨by rfl, ?_⟩) (by assumption) ?_
     rotate_left
     ·(intro w' hSw; go_simp; try with_reducible rfl)
     try simp only [Act.put, List.setIfInBounds_toArray, List.set_cons_zero, List.set_cons_succ]
     refine wpAnyH_take (i := 2) (oi := { dst := some 45, op := Op.move (Operand.tmp 2), type := 3, pos := "sfs.go:116", after := #[], guard := none }) (v := ?_) rfl (by kernel_rfl) (by kernel_rfl) (by kernel_rfl) (fun _ _ _ h => h) (Or.inl ⟨by rfl, ?_⟩) (by assumption) ?_
     rotate_left
     ·(intro w' hSw; go_simp; try with_reducible rfl)
     try simp only [Act.put, List.setIfInBounds_toArray, List.set_cons_zero, List.set_cons_succ]
     refine wpAnyH_take (i := 3) (oi := { dst := some 46, op := Op.build 122 #[(0, Operand.tmp 45)], type := 122, pos := "sfs.go:116", after := #[{ on := 2, ground := Ground.data }], guard := none }) (v := ?_) rfl (by kernel_rfl) (by kernel_rfl) (by kernel_rfl) (fun _ _ _ h => h) (Or.inl ⟨by rfl, ?_⟩) (by assumption) ?_
     rotate_left
     ·(intro w' hSw; go_simp; try with_reducible rfl)
     try simp only [Act.put, List.setIfInBounds_toArray, List.set_cons_zero, List.set_cons_succ]
     refine wpAnyH_take (i := 5) (oi := { dst := some 48, op := Op.move (Operand.tmp 11), type := 3, pos := "sfs.go:116", after := #[], guard := none }) (v := ?_) rfl (by kernel_rfl) (by kernel_rfl) (by kernel_rfl) (fun _ _ _ h => h) (Or.inl ⟨by rfl, ?_⟩) (by assumption) ?_
     rotate_left
     ·(intro w' hSw; go_simp; try with_reducible rfl)
     try simp only [Act.put, List.setIfInBounds_toArray, List.set_cons_zero, List.set_cons_succ]
     refine' wpAnyH_take (i := 6) (oi := { dst := some 49, op := Op.load 156 (Operand.tmp 7), type := 156, pos := "sfs.go:116", after := #[], guard := none }) (v := _) rfl (by kernel_rfl) (by kernel_rfl) (by kernel_rfl) (fun _ _ _ h => h) (ld_plc (by rfl) (.tmp 7) rfl w1.heap.size rfl ⟨sd, sn, false, sk, tg⟩ (fun w' hw => HPd.out w' hw)) (by assumption) ?_
     try simp only [Act.put, List.setIfInBounds_toArray, List.set_cons_zero, List.set_cons_succ]
     refine wpAnyH_take (i := 7) (oi := { dst := some 50, op := Op.move (Operand.tmp 9), type := 3, pos := "sfs.go:116", after := #[], guard := none }) (v := ?_) rfl (by kernel_rfl) (by kernel_rfl) (by kernel_rfl) (fun _ _ _ h => h) (Or.inl ⟨by rfl, ?_⟩) (by assumption) ?_
     rotate_left
     ·(intro w' hSw; go_simp; try with_reducible rfl)
     try simp only [Act.put, List.setIfInBounds_toArray, List.set_cons_zero, List.set_cons_succ]
     refine wpAnyH_ready (rs := [4]) (by kernel_rfl) (by simp) ?_
     refine AllReadyH.cons (o := { dst := some 47, op := Op.call { callee := Callee.value (Operand.func 147), args := #[Operand.tmp 44, Operand.tmp 46], argTypes := #[3, 122] }, type := 188, pos := "sfs.go:116", after := #[{ on := 1, ground := Ground.data }, { on := 3, ground := Ground.data }], guard := none }) rfl (fun K hK => ?_) AllReadyH.nil
     go_simp
     refine (HI.out _).mono ?_
     rintro e v1 ⟨rfl, hv1⟩
     have b1 := b0.trans (hv1.mono b0.size)
     have h1 := dsk.Touch.of_below (S := G) b1
     dsimp only
     refine hK.out _ _ ?_ (fun hHeld => ?_)
     ·exact h1
     clear hK K
     try simp only [Act.put, List.setIfInBounds_toArray, List.set_cons_zero, List.set_cons_succ]
     refine wpAnyH_ready (rs := [8]) (by kernel_rfl) (by simp) ?_
     refine AllReadyH.cons (o := { dst := some 51, op := Op.call { callee := Callee.value (Operand.func 151), args := #[Operand.tmp 49, Operand.tmp 50], argTypes := #[156, 3] }, type := 126, pos := "sfs.go:116", after := #[{ on := 6, ground := Ground.data }, { on := 7, ground := Ground.data }, { on := 4, ground := Ground.chain }], guard := none }) rfl (fun K hK => ?_) AllReadyH.nil
     go_simp
     refine (HEN.out _).mono ?_
     rintro e v2 ⟨rfl, hv2⟩
     have b2 := b1.trans (hv2.mono b1.size)
     have h2 := dsk.Touch.of_below (S := G) b2
     dsimp only
     refine hK.out _ _ ?_ (fun hHeld => ?_)
     ·exact h2
     clear hK K
     try simp only [Act.put, List.setIfInBounds_toArray, List.set_cons_zero, List.set_cons_succ]
     refine wpAnyH_ready (rs := [9]) (by kernel_rfl) (by simp) ?_
     refine AllReadyH.cons (o := { dst := some 52, op := Op.call { callee := Callee.value (Operand.func 153), args := #[Operand.tmp 48, Operand.tmp 51], argTypes := #[3, 126] }, type := 188, pos := "sfs.go:116", after := #[{ on := 5, ground := Ground.data }, { on := 8, ground := Ground.data }, { on := 8, ground := Ground.chain }], guard := none }) rfl (fun K hK => ?_) AllReadyH.nil
     go_simp
     refine (HE.out _).mono ?_
     rintro e v3 ⟨rfl, hv3⟩
     have b3 := b2.trans (hv3.mono b2.size)
     have h3 := dsk.Touch.of_below (S := G) b3
     dsimp only
     refine hK.out _ _ ?_ (fun hHeld => ?_)
     ·exact h3
     clear hK K
     try simp only [Act.put, List.setIfInBounds_toArray, List.set_cons_zero, List.set_cons_succ]
     refine wpAnyH_ready (rs := [10]) (by kernel_rfl) (by simp) ?_
     refine AllReadyH.cons (o := { dst := some 53, op := Op.buildSlice 239 2 #[(0, Operand.tmp 47), (1, Operand.tmp 52)], type := 239, pos := "sfs.go:116", after := #[{ on := 4, ground := Ground.data }, { on := 9, ground := Ground.data }], guard := none }) rfl (fun K hK => ?_) AllReadyH.nil
     refine step_two_st (by rfl) (.tmp 47) (.tmp 52) rfl x1 x2 false false OI.out.1 OE.out.1 rfl rfl ?_
     have h4 : dsk.Touch G w4.drew (v3.alloc (.cells (stC x1 false ++ stC x2 false).toArray 188)) := (h3).alloc _
     refine hK.out _ _ ?_ (fun hHeld => ?_)
     ·exact h4
     clear hK K
     try simp only [Act.put, List.setIfInBounds_toArray, List.set_cons_zero, List.set_cons_succ]
     refine wpAnyH_ready (rs := [11]) (by kernel_rfl) (by simp) ?_
     refine AllReadyH.cons (o := { dst := some 54, op := Op.call { callee := Callee.value (Operand.func 129), args := #[Operand.tmp 43, Operand.tmp 53], argTypes := #[33, 239] }, type := 27, pos := "sfs.go:116", after := #[{ on := 0, ground := Ground.data }, { on := 10, ground := Ground.data }, { on := 9, ground := Ground.chain }], guard := none }) rfl (fun K hK => ?_) AllReadyH.nil
     go_simp
     refine (HPF.out v3 (hBd.out _ b3)).mono ?_
     rintro e v5 ⟨hd5, ht5⟩
     have DD := Lib.hid hd5
     have h5 := (h4).trans ht5
     obtain ⟨rfl, _⟩ := hd5
     dsimp only
     refine hK.out _ _ ?_ (fun hHeld => ?_)
     ·exact h5
     clear hK K
     try simp only [Act.put, List.setIfInBounds_toArray, List.set_cons_zero, List.set_cons_succ]
     refine wpAnyH_take (i := 12) (oi := { dst := some 6, op := Op.assign (Operand.tmp 54), type := 27, pos := "sfs.go:116", after := #[{ on := 11, ground := Ground.data }, { on := 11, ground := Ground.chain }, { on := 0, ground := Ground.phase }, { on := 1, ground := Ground.phase }, { on := 2, ground := Ground.phase }, { on := 3, ground := Ground.phase }, { on := 4, ground := Ground.phase }, { on := 5, ground := Ground.phase }, { on := 6, ground := Ground.phase }, { on := 7, ground := Ground.phase }, { on := 8, ground := Ground.phase }, { on := 9, ground := Ground.phase }, { on := 10, ground := Ground.phase }, { on := 11, ground := Ground.phase }], guard := none }) (v := ?_) rfl (by kernel_rfl) (by kernel_rfl) (by kernel_rfl) (fun _ _ _ h => h) (Or.inl ⟨by rfl, ?_⟩) (by assumption) ?_
     rotate_left
     ·(intro w' hSw; go_simp; try with_reducible rfl)
     try simp only [Act.put, List.setIfInBounds_toArray, List.set_cons_zero, List.set_cons_succ]
     refine wpAnyH_done (by kernel_rfl) ?_ _
     go_wp2_with fail
     go_ret
     exact DD.out
 ·rw [if_pos he] at hV
  subst hV
  have heb : (er != 0) = true := by simpa using he
  go_enter Tryz.func126, Tryz.ntmps126
  go_wp2_with (first | (go_at_call 95; refine HLo.out.mono ?_; rintro e w1 ⟨rfl, hb⟩; have B1 := Lib.hid hb; clear hb) | (refine store_plc rfl (.tmp 7) (.tmp 16) rfl rfl w1.heap.size ⟨sd, sn, si, sk, tg⟩ plc0 rfl rfl (atP_lit w1) ?_; intro w2 hA hB; have B2 := Lib.hid (below_trans B1.out ((below_alloc (Below.refl _ w1) _).trans hB)); clear hA hB))
  go_ret
  exact pdone_same HR.out B2.out
theorem fcreate (G : Nat → Prop) (g : Nat) (d : Value) (st : St) (w : World) (hGl : ∀ b, G b → b < w.heap.size) (h : FsAt w G g d st) (k : Nat) (hg : st.good k) (hk : k + 20 ≤ 900) (hm : Mx w) (s : ByteArray) (hsz : s.size ≤ 100000) :
  Calls Tryz.prog 54 #[.pointer (some ⟨g, 0, none⟩), .string s] w (PDone G g d w (makeV st s 1)) := by
 have HA := Lib.hid (fadd G g d st w hGl h k hg hk hm s hsz 1 (by omega))
 clear h hg hk hm hsz hGl
 go_enter Tryz.func54, Tryz.ntmps54
 go_wp2_with (go_at_call 126; refine HA.out.mono ?_; rintro e w1 hd; have HD := Lib.hid hd; obtain ⟨rfl, _⟩ := hd)
 go_ret
 exact HD.out
theorem fmkdir (G : Nat → Prop) (g : Nat) (d : Value) (st : St) (w : World) (hGl : ∀ b, G b → b < w.heap.size) (h : FsAt w G g d st) (k : Nat) (hg : st.good k) (hk : k + 20 ≤ 900) (hm : Mx w) (s : ByteArray) (hsz : s.size ≤ 100000) :
  Calls Tryz.prog 79 #[.pointer (some ⟨g, 0, none⟩), .string s] w (PDone G g d w (makeV st s 2)) := by
 have HA := Lib.hid (fadd G g d st w hGl h k hg hk hm s hsz 2 (by omega))
 clear h hg hk hm hsz hGl
 go_enter Tryz.func79, Tryz.ntmps79
 go_wp2_with (go_at_call 126; refine HA.out.mono ?_; rintro e w1 hd; have HD := Lib.hid hd; obtain ⟨rfl, _⟩ := hd)
 go_ret
 exact HD.out
end fs
end Go.Proofs.YtpahnfnfoldbhaaGreatDoor
