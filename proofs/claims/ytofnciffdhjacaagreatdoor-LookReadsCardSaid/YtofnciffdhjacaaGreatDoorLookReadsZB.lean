/- What LookReads wants, part 28. -/
import Derived.Test.YtofnciffdhjacaaGreatDoorLookReadsR
import Derived.Test.YtofnciffdhjacaaGreatDoorLookReadsS
import Derived.Test.YtofnciffdhjacaaGreatDoorLookReadsU
import Derived.Test.YtofnciffdhjacaaGreatDoorLookReadsV
import Derived.Test.YtofnciffdhjacaaGreatDoorLookReadsW
import Derived.Test.YtofnciffdhjacaaGreatDoorLookReadsZ
import Derived.Test.YtofnciffdhjacaaGreatDoorLookReadsZA
import Derived.Test.YtofnciffdhjacaaGreatDoorShelf
/- What slices.Sort and slices.Compact give of a slice of names of the call's own. -/
namespace Go.Proofs.YtofnciffdhjacaaGreatDoor.lk
set_option maxRecDepth 100000
open Go.Sort Go.Lib
open Go.ChangeShapes Go.WideShapes Go.ChangeAt Go.RowKit
open Go.Proofs.YtofnciffdhjacaaGreatDoor.rows
open Go.Proofs.YtofnciffdhjacaaGreatDoor.rng
set_option linter.unusedVariables false

theorem enc_str (x : ByteArray) : encStr x.data.toList = .string x := by
  show Value.string ⟨x.data.toList.toArray⟩ = .string x
  rw [Array.toArray_toList]
theorem strV_enc (L : List ByteArray) : strV L = (L.map fun x => x.data.toList).map encStr := by
  rw [strV, List.map_map]
  exact List.map_congr_left fun x _ => (enc_str x).symm
theorem own_calm {B0 B : Nat} {w w' : World} {e : TypeId} {sz n : Nat} {v : Value} {cs : List Value} (h : rows.Own w B e sz v n cs) (k : rng.Calm B0 w w') : rows.Own w' B e sz v n cs := by
  refine ⟨h.1, ?_⟩
  rcases h.2 with h2 | ⟨g, cap, cur, hv, h3, h4, h5⟩
  · exact Or.inl h2
  · exact Or.inr ⟨g, cap, cur, hv, h3, k.block g _ h4 (Or.inr rfl), h5⟩
/-- the head of a slice of the call's own -/
theorem own_head {w : World} {B : Nat} {e : TypeId} {p : Option Addr} {n c k : Nat} {cs : List Value} (h : rows.Own w B e 1 (.slice p n c) n cs) (hk : k ≤ n) (hp : p = none → c = 0) : Rd w 1 (.slice p k c) k (cs.take k) := by
  by_cases h0 : k = 0
  · subst h0
    exact Or.inl ⟨p, c, rfl, rfl, rfl, hp⟩
  · rcases h.rd with ⟨p', cap', h1, rfl, rfl, h2⟩ | ⟨b, off, cap', h1, h2, h3, h4, h5, h6, h7⟩
    · omega
    · cases h1
      refine Or.inr ⟨b, off, c, rfl, by omega, by omega, h4, h5, ?_, fun i u hi => h7 i u ?_⟩
      · rw [List.length_take, h6]; omega
      · rw [List.getElem?_take] at hi
        split at hi
        · exact hi
        · cases hi
theorem own_none {w : World} {B : Nat} {e : TypeId} {p : Option Addr} {n c : Nat} {cs : List Value} (h : rows.Own w B e 1 (.slice p n c) n cs) : p = none → c = 0 := by
  rintro rfl
  rcases h.2 with ⟨h1, h2⟩ | ⟨g, cap, cur, h1, _⟩
  · cases h1; rfl
  · cases h1
theorem csort (p : Option Addr) (n c B : Nat) (zs : List (List UInt8)) (w : World) (hn : n ≤ 1000000) (h : rows.Own w B 9 1 (.slice p n c) n (zs.map encStr)) :
    Calls Tryz.prog 34 #[.slice p n c] w fun e w' => e = .returned (.tuple #[]) ∧ rows.Own w' B 9 1 (.slice p n c) n ((zs.mergeSort fun x y => decide (x ≤ y)).map encStr) ∧ dsk.Touch (fun k => (Value.slice p n c).ownBlock = some k) w w' := by
  have hl : zs.length = n := by
    have := h.1
    simpa using this
  by_cases h0 : n = 0
  · subst h0
    refine (Tryz.slices_Sort_string_none p c w).mono ?_
    rintro e w' ⟨rfl, rfl⟩
    obtain rfl : zs = [] := List.eq_nil_of_length_eq_zero hl
    exact ⟨rfl, by simpa using h, dsk.Touch.refl _ _⟩
  · rcases h.2 with ⟨h1, h2⟩ | ⟨g, cap, cur, h1, h2, h3, h4, h5, h6, h7⟩
    · exact absurd h2 h0
    · cases h1
      rw [Nat.mul_one] at h7
      subst hl
      refine (Tryz.slices_Sort_string g 0 c zs w (holds_of_block h3 h7) (Array.getElem?_eq_some_iff.1 h3).1 (by omega)).mono ?_
      rintro e w' ⟨rfl, m, os, rfl⟩
      refine ⟨rfl, ownsRow_sorted (List.length_mergeSort _) h2 h3 h4 h5 h6, ?_⟩
      have hg := grownBy_sorted (w := w) (g := g) (n := m) (os := os) (zs.mergeSort fun x y => decide (x ≤ y)).toArray
      exact ⟨hg.os, hg.tape, hg.output, hg.size, fun k hk hn => hg.block k hk fun e => hn (by rw [e]; rfl)⟩
theorem ccompact (p : Option Addr) (n c B : Nat) (ys : List (List UInt8)) (w : World) (hn : n ≤ 1000000) (h : rows.Own w B 9 1 (.slice p n c) n (ys.map encStr)) :
    Calls Tryz.prog 35 #[.slice p n c] w fun e w' => e = .returned (.slice p (Lib.compact ys).length c) ∧ (∃ us, rows.Own w' B 9 1 (.slice p n c) n ((Lib.compact ys ++ us).map encStr)) ∧ dsk.Touch (fun k => (Value.slice p n c).ownBlock = some k) w w' := by
  have hl : ys.length = n := by
    have := h.1
    simpa using this
  by_cases h0 : n = 0
  · subst h0
    refine (Tryz.slices_Compact_string_empty p c w).mono ?_
    rintro e w' ⟨rfl, rfl⟩
    obtain rfl : ys = [] := List.eq_nil_of_length_eq_zero hl
    exact ⟨rfl, ⟨[], by simpa [Lib.compact, compactUpTo] using h⟩, dsk.Touch.refl _ _⟩
  · rcases h.2 with ⟨h1, h2⟩ | ⟨g, cap, cur, h1, h2, h3, h4, h5, h6, h7⟩
    · exact absurd h2 h0
    · cases h1
      rw [Nat.mul_one] at h7
      subst hl
      refine (Tryz.slices_Compact_string g 0 c ys w (holds_of_block h3 h7) (by omega) h4).mono ?_
      rintro e w' ⟨rfl, q, rfl⟩
      have hlen := compact_length_le ys
      have e1 : (Lib.compact ys ++ List.replicate (ys.length - (Lib.compact ys).length) ([] : List UInt8)).length = ys.length := by
        rw [List.length_append, List.length_replicate]; omega
      generalize List.replicate (ys.length - (Lib.compact ys).length) ([] : List UInt8) = us at *
      refine ⟨rfl, ⟨us, ?_⟩, ?_⟩
      · have := ownsRow_sorted (w := w) (base := B) (n := q) (os := #[]) (ts := Lib.compact ys ++ us) e1 h2 h3 h4 h5 h6
        rw [grow_empty] at this
        exact this
      · have hg := grownBy_sorted (w := w) (g := g) (n := q) (os := #[]) (Lib.compact ys ++ us).toArray
        rw [grow_empty] at hg
        exact ⟨hg.os, hg.tape, hg.output, hg.size, fun k hk hn => hg.block k hk fun e => hn (by rw [e]; rfl)⟩
end Go.Proofs.YtofnciffdhjacaaGreatDoor.lk
/- What the code's List gives. -/
namespace Go.Proofs.YtofnciffdhjacaaGreatDoor.lk
set_option maxRecDepth 100000
open Go.ChangeShapes Go.WideShapes Go.ChangeAt Go.RowKit
open Go.Proofs.YtofnciffdhjacaaGreatDoor.rows
open Go.Proofs.YtofnciffdhjacaaGreatDoor.sec
open Go.Proofs.YtofnciffdhjacaaGreatDoor.dsk (wf64 build_one rd_laid ap_rd3)
open Go.Proofs.YtofnciffdhjacaaGreatDoor.ly
open Go.Proofs.YtofnciffdhjacaaGreatDoor.rng
set_option linter.unusedVariables false
set_option linter.unusedSimpArgs false
attribute [local go_sem] Oper.semAt_some

/-- the names by the entries with these numbers -/
def named (ss : List (List Int)) (l : List Nat) : List ByteArray := l.map fun (k : Nat) => (entAt ss (k : Int)).name
theorem those_len (p : Nat → Bool) (m : Nat) : (those p m).length ≤ m := by
  have := List.length_filter_le p (List.range m)
  rwa [List.length_range] at this
def bytesL (L : List ByteArray) : List (List UInt8) := L.map fun x => x.data.toList
def strsL (l : List (List UInt8)) : List ByteArray := l.map fun x => ⟨x.toArray⟩
theorem strs_enc (l : List (List UInt8)) : strV (strsL l) = l.map encStr := by
  rw [strV, strsL, List.map_map]; rfl
theorem risen_list (ss : List (List Int)) (i : Int) : IsList ss i (strsL (risen (bytesL (named ss (those (inDir ss i) 24))))) := by
  obtain ⟨h1, h2⟩ := risen_is (bytesL (named ss (those (inDir ss i) 24)))
  refine ⟨?_, fun x => ?_⟩
  · rw [strsL, List.pairwise_map]
    refine h1.imp fun {a b} hab => ?_
    rw [ltS_eq, decide_eq_true_eq]
    simpa [ByteArray.toList_eq] using hab
  · rw [strsL, List.mem_map]
    constructor
    · rintro ⟨y, hy, rfl⟩
      obtain ⟨z, hz, rfl⟩ := List.mem_map.1 ((h2 y).1 hy)
      obtain ⟨k, hk, rfl⟩ := List.mem_map.1 hz
      obtain ⟨h3, h4⟩ := those_mem.1 hk
      rw [inDir, Bool.and_eq_true, decide_eq_true_eq] at h4
      exact ⟨k, h3, h4.1, h4.2, by simp⟩
    · rintro ⟨k, h3, h4, h5, rfl⟩
      refine ⟨(entAt ss (k : Int)).name.data.toList, (h2 _).2 (List.mem_map.2 ⟨_, List.mem_map.2 ⟨k, those_mem.2 ⟨h3, ?_⟩, rfl⟩, rfl⟩), by simp⟩
      rw [inDir, h4, h5, decide_eq_true rfl]; rfl
/-- between two rounds of List -/
structure NmsI (w : World) (B : Nat) (ss : List (List Int)) (pre : List Nat) (p : Option Addr) (n c : Nat) (W : World) : Prop where
  box : Go.Boxed W w.heap.size 55 (.slice p n c)
  own : rows.Own W 0 9 1 (.slice p n c) n (strV (named ss pre))
  len : n = pre.length
  low : ∀ k, (Value.slice p n c).ownBlock = some k → B ≤ k
  below : Below w.heap.size w W
theorem NmsI.calm {w : World} {B : Nat} {ss : List (List Int)} {pre : List Nat} {p : Option Addr} {n c : Nat} {a b : World} (h : NmsI w B ss pre p n c a) (hB : w.heap.size ≤ B) (k : rng.Calm B a b) : NmsI w B ss pre p n c b :=
  ⟨k.boxed h.box, own_calm h.own k, h.len, h.low, h.below.trans (k.below hB h.below.size)⟩
theorem own_at {w : World} {B : Nat} {e : TypeId} {sz n : Nat} {v : Value} {cs : List Value} (h : rows.Own w B e sz v n cs) {k : Nat} (hk : v.ownBlock = some k) : ∃ cur, w.heap[k]? = some (.cells cur e (0, 0)) := by
  rcases h.2 with ⟨rfl, _⟩ | ⟨g, cap, cur, rfl, h3, h4, _⟩
  · simp [Value.ownBlock] at hk
  · obtain rfl : g = k := by simpa [Value.ownBlock] using hk
    exact ⟨_, h4⟩
theorem boxed_kept {Z : Nat → Prop} {W W' : World} {B : Nat} {t : TypeId} {v : Value} (h : Go.Boxed W B t v) (ht : dsk.Touch Z W W') (hT : ¬ Z B) : Go.Boxed W' B t v := (ht.block B h.lt hT).trans h
theorem string_soft {cur : Array Value} : softE (.cells cur 9 (0, 0)) := ⟨cur, _, _, rfl, by decide, by decide⟩
set_option maxRecDepth 100000 in
set_option maxHeartbeats 2000000 in
theorem list_any (w : World) (d : Value) (ss : List (List Int)) (i : Int) (h : Dk w d ss) : Calls Tryz.prog 19 #[d, .int .i64 i] w fun e w' => ∃ L q m k, IsList ss i L ∧ e = .returned (.slice q m k) ∧ m = L.length ∧ Rd w' 1 (.slice q m k) m (strV L) ∧ Below w.heap.size w w' := by
  have HD := Lib.hid h
  obtain ⟨p, rfl⟩ := dk_ptr h
  clear h
  have hB0 := below_alloc (below_alloc (below_alloc (Below.refl w.heap.size w) (.cells #[.slice none 0 0] 55)) (.cells #[.pointer p] 25)) (.cells #[.int .i64 i] 3)
  have b0 := ((Go.Boxed.new w 55 (.slice none 0 0)).alloc (.cells #[.pointer p] 25)).alloc (.cells #[.int .i64 i] 3)
  have b3 := (Go.Boxed.new (w.alloc (.cells #[.slice none 0 0] 55)) 25 (.pointer p)).alloc (.cells #[.int .i64 i] 3)
  have b4 := Go.Boxed.new ((w.alloc (.cells #[.slice none 0 0] 55)).alloc (.cells #[.pointer p] 25)) 3 (.int .i64 i)
  simp only [World.size_alloc] at b3 b4
  have hsz : (((w.alloc (.cells #[.slice none 0 0] 55)).alloc (.cells #[.pointer p] 25)).alloc (.cells #[.int .i64 i] 3)).heap.size = w.heap.size + 3 := by simp [World.size_alloc]
  obtain ⟨W0, hW0⟩ : ∃ W0, ((w.alloc (.cells #[.slice none 0 0] 55)).alloc (.cells #[.pointer p] 25)).alloc (.cells #[.int .i64 i] 3) = W0 := ⟨_, rfl⟩
  rw [hW0] at hB0 b0 b3 b4 hsz
  have HB0 := Lib.hid hB0
  have B0 := Lib.hid b0
  have B3 := Lib.hid b3
  have B4 := Lib.hid b4
  have HSZ := Lib.hid hsz
  have hwz : w.heap.size ≤ W0.heap.size := by omega
  clear hB0 b0 b3 b4 hsz
  refine (callsIn_wide (n := 10)).1 (callsIn_of_wp_marks Tryz.func19 rfl trivial ?_ rfl)
  simp only [Tryz.ntmps19, List.size_toArray, List.length_cons, List.length_nil, Nat.reduceAdd, Nat.reduceSub, Array.replicate_succ, Array.replicate_zero, List.push_toArray, List.append_toArray, List.nil_append, List.cons_append]
  gi_wp2_with (refine ⟨trivial, ?_⟩; gi_at_call 33; refine (callsIn_wide.2 (cwithin_any _ _ _)).mono ?_; rintro e w2 ⟨rfl, rfl⟩)
  try rw [hW0]
  clear hW0
  refine range_over (gf := 54) (lb := #[.pointer (some ⟨w.heap.size + 1, 0, none⟩), .pointer (some ⟨w.heap.size + 1 + 1, 0, none⟩)]) rfl (enters_of Tryz.func54 (by kernel_rfl) rfl)
    (within_seq w p ss HD.out i (w.heap.size + 1) (w.heap.size + 1 + 1) (fun b o => b = W0.heap.size + 1 ∨ (b = w.heap.size ∨ (W0.heap.size ≤ b ∧ ∃ cur, o = .cells cur 9 (0, 0)))) W0 HB0.out B3.out B4.out (fun b o hb => by have := HSZ.out; omega) (fun o hb => by have := HSZ.out; omega) (fun o hb => by have := HSZ.out; omega))
    (fun b o h => by
      have := HSZ.out
      rcases h with h | ⟨_, cur, rfl⟩
      · exact Or.inl (by omega)
      · exact Or.inr string_soft) soft_cells (fun _ => rfl)
    (fun pre W => ∃ q n c, NmsI w W0.heap.size ss pre q n c W)
    (fun c pre W => False)
    (fun s A B ⟨q, n, c, h⟩ hc => ⟨q, n, c, h.calm hwz hc⟩)
    (fun c s A B h hc => h)
    ⟨none, 0, 0, B0.out, own_nil _ _ _ _, rfl, fun k hk => by simp [Value.ownBlock] at hk, HB0.out⟩
    (fun pre k a' W => (∃ q n c, NmsI w W0.heap.size ss pre q n c W) ∧ ∃ Bx, AtE W Bx (entAt ss (k : Int)) ∧ a' = { tmps := #[.pointer p, .int .i64 i, undef, undef, .slice none 0 0, .pointer (some ⟨w.heap.size, 0, none⟩), undef, .pointer (some ⟨Bx, 0, none⟩), .pointer p, .int .i64 i, .func (.func 54) #[] #[.pointer (some ⟨w.heap.size + 1, 0, none⟩), .pointer (some ⟨w.heap.size + 1 + 1, 0, none⟩)], .int .i64 (k : Int), aggE (entAt ss (k : Int)), undef, undef, undef, undef, undef, undef, undef, undef, undef], defers := [] })
    (fun s k a' A B h hc => by
      obtain ⟨⟨q, n, c, h1⟩, Bx, h2, h3⟩ := h
      exact ⟨⟨q, n, c, h1.calm hwz hc⟩, Bx, hc.block _ _ h2 (Or.inr rfl), h3⟩)
    ?assign ?body ?done ?stop
  case assign =>
    rintro l pre k W hI hsz _
    generalize entAt ss (k : Int) = x
    obtain ⟨u, pa, xn, tg⟩ := x
    have HI := Lib.hid hI
    clear hI
    gi_wp2
    have hb := below_alloc (Below.refl W.heap.size W) (.cells #[.bool u, .int .i64 pa, .string xn, .int .i64 tg] 34)
    obtain ⟨q, n, c, hI⟩ := HI.out
    exact ⟨⟨⟨q, n, c, hI.calm hwz (rng.Calm.of_below hb)⟩, W.heap.size, atE_new W ⟨u, pa, xn, tg⟩, rfl⟩, Turn.of_below hb⟩
  case body =>
    rintro l pre k a' W ⟨⟨q, n, c, hI⟩, Bx, hX, rfl⟩ hsz hsp
    have HI := Lib.hid hI
    have hl24 : pre.length + 1 ≤ 24 := by
      have h1 := hsp.length_le
      have h2 := those_len (inDir ss i) 24
      rw [List.length_append] at h1
      simp only [List.length_cons, List.length_nil] at h1
      omega
    have hn24 : n + 1 ≤ 24 := by rw [hI.len]; exact hl24
    have b0 := hI.box.cell
    have f0 := hI.box.frozen
    have x2 := hX.cell2
    obtain ⟨g, hg⟩ : ∃ g, (entAt ss (k : Int)).name = g := ⟨_, rfl⟩
    have HG := Lib.hid hg
    rw [hg] at x2
    generalize aggE (entAt ss (k : Int)) = ax
    have hlow : ∀ k, (Value.slice q n c).ownBlock = some k → k ≠ w.heap.size := fun k hk e => by have := hI.low k hk; have := HSZ.out; omega
    clear hI hsp hg hX
    gi_wp2_with (first | (refine one_in rfl ?_; refine build_one elem_names (by decide) rfl (.tmp 15) rfl [.string g] rfl rfl ?_; refine one_end ?_) | (gi_at_builtin; refine one_in rfl ?_; refine ap_rd3 elem_names rfl (.tmp 13) (.tmp 16) rfl _ n _ rfl (HI.out.own.alloc _) _ 1 [.string g] rfl (rd_laid _ _ _ _ rfl) (fun u hu => by rw [List.mem_singleton.1 hu]; rfl) (by omega) ?_; intro pa ca wa hoa hta hla; have hB8 := boxed_kept (HI.out.box.alloc (.cells [Value.string g].toArray 9)) hta (fun e => hlow _ e rfl); have c8a := hB8.cell; have f8a := hB8.frozen; have HOA := Lib.hid hoa; have HTA := Lib.hid hta; have HLA := Lib.hid hla; have HB8 := Lib.hid hB8; clear hoa hta hla hB8; refine one_end ?_))
    have hWs := HI.out.below.size
    have hz := HSZ.out
    have ht : dsk.Touch (fun k => (Value.slice q n c).ownBlock = some k ∨ k = w.heap.size) W (wa.setCell ⟨w.heap.size, 0, none⟩ (.slice pa (n + 1) ca)) :=
      dsk.Touch.setCell (S := fun k => (Value.slice q n c).ownBlock = some k ∨ k = w.heap.size) (((dsk.Touch.alloc (dsk.Touch.refl _ W) _).trans HTA.out).mono (fun i hi => Or.inl hi)) ⟨w.heap.size, 0, none⟩ (Or.inr rfl) _
    have hlow2 : ∀ k, (Value.slice pa (n + 1) ca).ownBlock = some k → W0.heap.size ≤ k := fun k hk => by
      rcases HLA.out k hk with h | h
      · exact HI.out.low k h
      · have := h.1
        rw [World.size_alloc] at this
        omega
    have hnm : strV (named ss (pre ++ [k])) = strV (named ss pre) ++ [.string g] := by
      rw [named, named, List.map_append, strV, strV, List.map_append, List.map_singleton, HG.out]; rfl
    refine ⟨⟨pa, n + 1, ca, HB8.out.set _, ?_, by rw [List.length_append, ← HI.out.len]; rfl, hlow2, HI.out.below.trans (ht.below hWs fun k hk => ?_)⟩, Turn.of_touch' ht fun k o hko hk => ?_⟩
    · rw [hnm]
      exact dsk.own_kept (S := fun k => W0.heap.size ≤ k) HOA.out hlow2 (dsk.Keeps.set (fun k hk => by omega) _)
    · rcases hk with hk | rfl
      · have := HI.out.low k hk; omega
      · exact Nat.le_refl _
    · rcases hk with hk | rfl
      · obtain ⟨cur, hc⟩ := own_at HI.out.own hk
        rw [hko] at hc
        exact Or.inr ⟨HI.out.low k hk, cur, Option.some.inj hc⟩
      · exact Or.inl rfl
  case done =>
    rintro D ys W hD rfl ⟨q, n, c, hI⟩ hK
    have HI := Lib.hid hI
    have b0 := hI.box.cell
    have hn24 : n ≤ 24 := by rw [hI.len]; exact those_len _ _
    have HLS := Lib.hid (risen_list ss i)
    have hown := hI.own
    rw [strV_enc] at hown
    have HZ : Hid (bytesL (named ss (those (inDir ss i) 24)) = (named ss (those (inDir ss i) 24)).map fun x => x.data.toList) := Lib.hid rfl
    rw [← HZ.out] at hown
    generalize bytesL (named ss (those (inDir ss i) 24)) = zs at *
    have hzl : zs.length = n := by
      have := hown.1
      simpa using this
    have HS := Lib.hid (csort q n c 0 zs W (by omega) hown)
    have HNN := Lib.hid (own_none hown)
    have hlow : ∀ k, (Value.slice q n c).ownBlock = some k → W0.heap.size ≤ k := hI.low
    have hnd : ∀ (V : World) (cs : List Value), V.heap[D]? = some (.deferred (some [])) → rows.Own V 0 9 1 (.slice q n c) n cs → ¬ (Value.slice q n c).ownBlock = some D := fun V cs hV ho hk => by
      obtain ⟨cur, hc⟩ := own_at ho hk
      rw [hV] at hc; cases hc
    have HND := Lib.hid hnd
    have HOWN := Lib.hid hown
    have HLOW := Lib.hid hlow
    clear hI hown HZ hnd hlow
    gi_wp2_with (first | (refine ⟨trivial, ?_⟩; gi_at_call 34; refine (callsIn_wide.2 HS.out).mono ?_; rintro e w5 ⟨rfl, ho5, ht5⟩; have HO5 := Lib.hid ho5; have HT5 := Lib.hid ht5; have hb5 := boxed_kept HI.out.box ht5 (fun e => by have := HLOW.out _ e; have := HSZ.out; omega); have c5 := hb5.cell; clear ho5 ht5 hb5) | (refine ⟨trivial, ?_⟩; gi_at_call 35; refine (callsIn_wide.2 (ccompact q n c 0 _ w5 (by omega) HO5.out)).mono ?_; rintro e w6 ⟨rfl, ho6, ht6⟩; have HO6 := Lib.hid ho6; have HT6 := Lib.hid ht6; clear ho6 ht6))
    have hK5 : w5.heap[D]? = some (.deferred (some [])) := (HT5.out.block D (Array.getElem?_eq_some_iff.1 hK).1 (HND.out W _ hK HOWN.out)).trans hK
    have hK6 : w6.heap[D]? = some (.deferred (some [])) := (HT6.out.block D (Array.getElem?_eq_some_iff.1 hK5).1 (HND.out w5 _ hK5 HO5.out)).trans hK5
    refine ⟨by simp, .inl ⟨_, _, rfl, run_takeDeferred hK6, ?_⟩⟩
    obtain ⟨us, ho⟩ := HO6.out
    have ho2 := own_calm ho (rng.Calm.putObj (B := 0) (.deferred none) (Nat.zero_le _) hK6 rfl)
    have hlen : (risen zs).length ≤ n := by rw [← hzl]; exact risen_len zs
    have hrd := own_head ho2 hlen HNN.out
    rw [List.map_append, List.take_left' (by rw [List.length_map]; rfl), show Lib.compact (zs.mergeSort fun x y => decide (x ≤ y)) = risen zs from rfl, ← strs_enc] at hrd
    have hb := HI.out.below.trans ((HT5.out.below HI.out.below.size fun k hk => by have := HLOW.out k hk; omega).trans (HT6.out.below (Nat.le_trans HI.out.below.size HT5.out.size) fun k hk => by have := HLOW.out k hk; omega))
    exact ⟨_, results_tmp rfl _ _ _, _, q, _, c, HLS.out, rfl, by rw [strsL, List.length_map], hrd, hb.grown (grownBy_putObj' _ D (.deferred none)) hb.size (fun k e => by cases e; omega)⟩
  case stop =>
    rintro D c pre W hD hp h hK
    exact h.elim
end Go.Proofs.YtofnciffdhjacaaGreatDoor.lk
/- The code's functions of layer 9 give what is asked. -/
namespace Go.Proofs.YtofnciffdhjacaaGreatDoor.lk
set_option maxRecDepth 100000
open Go.ChangeShapes Go.WideShapes Go.ChangeAt Go.RowKit

theorem readsIs : ReadsIs where
  inode := cino_any
  entry := cent_any
  taken := taken_any
  mounted := mounted_any
theorem findsIs : FindsIs where
  find w d ss i nm h _ _ := find_any w d ss i nm h
  lookup w d ss s hm h hs := lookup_any w d ss s hm h hs
  list w d ss i h _ := list_any w d ss i h
theorem knownIs : KnownIs := known_of findsIs
end Go.Proofs.YtofnciffdhjacaaGreatDoor.lk
/- LookReads over the code (XLkCode: readsIs, knownIs). -/
namespace Go.Proofs.YtofnciffdhjacaaGreatDoor.lk
set_option maxRecDepth 100000
open Go.ChangeShapes Go.WideShapes Go.ChangeAt Go.RowKit
open Go.Proofs.YtofnciffdhjacaaGreatDoor.rows
open Go.Proofs.YtofnciffdhjacaaGreatDoor.sec
open Go.Proofs.YtofnciffdhjacaaGreatDoor.dsk (wf64 Wr Wr.ok wrsC)
open Go.Proofs.YtofnciffdhjacaaGreatDoor.ly

theorem walkLookReads (p : Option Addr) (n c : Nat) (ss : List (List Int)) (p2 : Option Addr) (m c2 : Nat) (ws : List Wr) (i : Int) (hi : wf64 i) (k : Int) (hk : wf64 k) (w : World) (h1 : Rd w 32 (.slice p n c) n (cellsOf ss)) (hn : n ≤ maxLen) (hs : Secs ss)
    (h2 : Rd w 36 (.slice p2 m c2) m (wrsC ws)) (hm : m ≤ maxLen) (hok : ∀ x ∈ ws, x.ok) (hmx : pa.Mx w) :
    Calls Tryz.prog 3 #[.slice p n c, .slice p2 m c2, .int .i64 i, .int .i64 k] w fun e w' => e = .returned (.bool true) ∧ Below w.heap.size w w' :=
  reads_of readsIs w (fun w' hb => knows_of readsIs knownIs w' (hmx.later hb)) p n c ss p2 m c2 ws i hi k hk h1 hn hs h2 hm hok
end Go.Proofs.YtofnciffdhjacaaGreatDoor.lk
