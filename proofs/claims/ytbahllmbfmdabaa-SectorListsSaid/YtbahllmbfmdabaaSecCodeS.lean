/- What the code's Spread gives. -/
import Derived.Test.YtbahllmbfmdabaaSecCodeA
import Derived.Test.YtbahllmbfmdabaaSecBackOf
import Derived.Deep.MidRow
namespace Go.Proofs.Ytbahllmbfmdabaa.sec
open Go.ChangeShapes Go.WideShapes Go.ChangeAt Go.RowKit
open Go.Proofs.Ytbahllmbfmdabaa.rows
set_option linter.unusedVariables false

theorem array_at (w : World) (a : Option Addr) (c : Nat) : (Instr.arrayAt 34 (.slice a 32 c)).run Try.prog w = .ok (.pointer a) w := by
  simp [Instr.arrayAt, run_underlying Try.underlying34]
/-- a sector out of the middle of a row -/
theorem load_mid {ops : Array Oper} {rest : List Oper} {o : Oper} {a : Act} {w : World} {Q : Exit → Act → World → Prop} (hgd : o.guard = none) (x : Operand) (ho : o.op = .load 34 x)
    (b off : Nat) (hx : a.eval x = .pointer (some ⟨b, off, none⟩)) (s : List Int) (hs : s.length = 32) (hg : w.rangeAt b off (u8s s))
    (h : wpList Try.prog ops Q rest (a.put o.dst (agg s)) w) : wpList Try.prog ops Q (o :: rest) a w :=
  wpList_load_mid hgd 34 x ho b off hx (u8s s) _ hg Try.underlying34 rfl (by rw [info_sec]; simp [u8s, hs]) h
/-- the slice of one sector that append lays -/
theorem build_at {ops : Array Oper} {rest : List Oper} {o : Oper} {a : Act} {w : World} {Q : Exit → Act → World → Prop} (hgd : o.guard = none) (x : Operand)
    (ho : o.op = .buildSlice 23 1 #[(0, x)]) (s : List Int) (hx : a.eval x = agg s) (hs : s.length = 32)
    (h : wpList Try.prog ops Q rest (a.put o.dst (.slice (some ⟨w.heap.size, 0, none⟩) 1 1)) (w.alloc (.cells (u8s s).toArray 34))) : wpList Try.prog ops Q (o :: rest) a w := by
  refine wpList_plain hgd fun K hK => ?_
  obtain ⟨ie, hi, hz0, hz1, hz2⟩ := info_parts elem_secs.info
  refine wp_buildSlice 23 34 1 #[(0, x)] ho (u8s s).toArray ie _ Try.underlying23 hi hz0 (by rw [hz1]; decide) (by rw [hz1]; decide) ?_ (hK _ _ h)
  rw [hz1]
  simp only [List.map_toArray, List.map_cons, List.map_nil, hx]
  exact fill_sec s _ hs (by simp)
theorem range_take {w : World} {b off k : Nat} {cs : List Value} (h : w.rangeAt b off cs) : w.rangeAt b off (cs.take k) := fun j u hj => by
  refine h j u ?_
  rw [List.getElem?_take] at hj
  by_cases hjk : j < k
  · simpa [hjk] using hj
  · simp [hjk] at hj
theorem range_drop {w : World} {b off k : Nat} {cs : List Value} (h : w.rangeAt b off cs) : w.rangeAt b (off + k) (cs.drop k) := fun j u hj => by
  rw [List.getElem?_drop] at hj
  rw [Nat.add_assoc]
  exact h (k + j) u hj
theorem u8s_take (l : List Int) (k : Nat) : u8s (l.take k) = (u8s l).take k := by simp [u8s]
theorem u8s_drop (l : List Int) (k : Nat) : u8s (l.drop k) = (u8s l).drop k := by simp [u8s]
theorem u8s_append (a b : List Int) : u8s (a ++ b) = u8s a ++ u8s b := by simp [u8s]

theorem rd_cut32 {w : World} {b off n c : Nat} {cs : List Value} (h : Rd w 1 (.slice (some ⟨b, off, none⟩) n c) n cs) (hn : 32 ≤ n) : Rd w 1 (.slice (if c = 32 then some ⟨b, off, none⟩ else some ⟨b, off + 32, none⟩) (n - 32) (c - 32)) (n - 32) (cs.drop 32) := by
  rcases h with ⟨p', cap', h1, h0, _⟩ | ⟨b', off', cap', h1, h2, h3, h4, h5, h6, h7⟩
  · omega
  · cases h1
    by_cases hz : n = 32
    · refine Or.inl ⟨_, _, by rw [hz], by omega, ?_, fun h => ?_⟩
      · exact List.drop_of_length_le (by omega)
      · split at h <;> cases h
    · rw [if_neg (by omega)]
      exact Or.inr ⟨b, off + 32, c - 32, rfl, by omega, by omega, by omega, h5, by simp [h6], range_drop h7⟩

set_option maxHeartbeats 1600000 in
theorem spread_is : SpreadIs 9 := by
  intro p n c zs w hz h1 l1
  have hzl : zs.length = n := by have := h1.cells; simpa [u8s] using this
  have H1 := Lib.hid h1
  have HZ := Lib.hid hzl
  rw [spr_cells, hzl]
  have hb1 : (n:Int) ≤ 1000 := by omega
  clear h1 hzl
  go_enter Try.func9, Try.ntmps9
  go_wp2
  go_loopw [0, 3] (fun bv lv wr => ∃ (K n' : Nat) (p' : Option Addr) (c' : Nat) (pl : Option Addr) (cl : Nat), n' + K * 32 = n ∧ bv = .slice p' n' c' ∧ lv = .slice pl K cl ∧ Hid (Rd w 1 (.slice p' n' c') n' (u8s (zs.drop (K * 32)))) ∧ Hid (Own wr w.heap.size 34 32 (.slice pl K cl) K (u8s (zs.take (K * 32)))) ∧ Below w.heap.size w wr) (fun bv _ _ => (match bv with | .slice _ n _ => n | _ => 0))
  case atStart => exact ⟨0, n, p, c, none, 0, by omega, rfl, rfl, Lib.hid (by simpa using H1.out), Lib.hid (by simpa [u8s] using own_nil w w.heap.size 34 32), Below.refl _ _⟩
  case round =>
    obtain ⟨K, n', p', c', pl, cl, hn, rfl, rfl, HR, HO, hbr⟩ := hrel
    by_cases ha : 32 ≤ n'
    · have ha1 : (32:Int) ≤ n' := by omega
      have hrd := HR.out
      rcases hrd with ⟨p2, cap', h1, h0, _⟩ | ⟨b, off, cap', h1, h2, h3, h4, h5, h6, h7⟩
      · omega
      · cases h1
        have hav := array_at
        have hzl : 32 + K * 32 ≤ zs.length := by rw [HZ.out]; omega
        obtain ⟨s, hs⟩ : ∃ s, (zs.drop (K * 32)).take 32 = s := ⟨_, rfl⟩
        have hsl : s.length = 32 := by rw [← hs]; simp; omega
        have HSL := Lib.hid hsl
        have HRG : Hid (wr.rangeAt b off (u8s s)) := Lib.hid (by rw [← hs, u8s_take]; exact Rd.rangeLater (range_take h7) h5 hbr)
        have HTK : Hid (u8s (zs.take (K * 32)) ++ u8s s = u8s (zs.take ((K + 1) * 32))) := Lib.hid (by rw [← hs, ← u8s_append, ← List.take_add, show K * 32 + 32 = (K + 1) * 32 by omega])
        have HDR : Hid ((u8s (zs.drop (K * 32))).drop 32 = u8s (zs.drop ((K + 1) * 32))) := Lib.hid (by rw [← u8s_drop, List.drop_drop, show K * 32 + 32 = (K + 1) * 32 by omega])
        clear hs hsl h7 h6 hz
        go_wp2_with (first | (refine load_mid rfl (.tmp 12) rfl b off rfl s HSL.out HRG.out ?_) | (refine build_at rfl (.tmp 13) rfl s rfl HSL.out ?_) | (at_builtin; refine ap_rd elem_secs rfl (.tmp 9) (.tmp 14) rfl w.heap.size _ K _ rfl (HO.out.alloc _) _ 1 (u8s s) rfl (rd_sec _ s HSL.out) (one_ints .u8 s) (by omega) (by have := hbr.size; simp; omega) ?_; intro pa ca wa ho hb; rw [HTK.out] at ho; have HO2 := Lib.hid ho; clear ho))
        have HR2 := Lib.hid (rd_cut32 HR.out ha)
        rw [HDR.out] at HR2
        go_roundw
        case rel => exact ⟨K + 1, n' - 32, _, _, pa, ca, by omega, rfl, rfl, HR2, HO2, below_trans' (below_alloc hbr _) hb (Nat.le_refl _)⟩
        case measure => simp; omega
    · have ha1 : (n':Int) < 32 := by omega
      by_cases h0 : 0 < n'
      · have h01 : (0:Int) < n' := by omega
        have g0 : decide (32 ≤ (n':Int)) = false := by simp; omega
        have hzl : zs.length = n' + K * 32 := by rw [HZ.out]; omega
        have HOF := Lib.hid (of_is p' n' c' (zs.drop (K * 32)) wr (fun x hx => hz x (List.mem_of_mem_drop hx)) (HR.out.later hbr) (by omega))
        obtain ⟨s, hs⟩ : ∃ s, zs.drop (K * 32) ++ List.replicate (32 - n') 0 = s := ⟨_, rfl⟩
        have HSL : Hid (s.length = 32) := Lib.hid (by rw [← hs]; simp; omega)
        have HTK : Hid (u8s (zs.take (K * 32)) ++ u8s s = part zs n (K + 1)) := Lib.hid (by
          rw [← hs, ← u8s_append, ← List.append_assoc, List.take_append_drop, part, ← HZ.out, List.take_length, hzl, show (K + 1) * 32 - (n' + K * 32) = 32 - n' by omega])
        have HKK : Hid ((n + 31) / 32 = K + 1) := Lib.hid (by omega)
        rw [hs] at HOF
        clear hs hzl
        go_wp2_with (first | (go_at_call 17; refine HOF.out.mono ?_; rintro e w1 ⟨rfl, hb1⟩; have HO1 := Lib.hid (own_later HO.out hb1); have A1 := Lib.hid (at_new w1 s)) | (refine store_new' rfl _ _ rfl rfl w1 s _ rfl rfl HSL.out rfl ?_) | (refine load_at rfl (.tmp 4) rfl w1.heap.size rfl s HSL.out A1.out ?_) | (refine build_at rfl (.tmp 27) rfl s rfl HSL.out ?_) | (at_builtin; refine ap_rd elem_secs rfl (.tmp 26) (.tmp 28) rfl w.heap.size _ K _ rfl ((HO1.out.alloc _).alloc _) _ 1 (u8s s) rfl (rd_sec _ s HSL.out) (one_ints .u8 s) (by omega) (by have := hbr.size; have := hb1.size; simp; omega) ?_; intro pa ca wa ho hb; rw [HTK.out] at ho; have HO2 := Lib.hid ho; clear ho))
        rw [HKK.out]
        go_ret
        exact ⟨pa, ca, rfl, HO2.out.rd, below_trans' (below_alloc (below_alloc (below_trans hbr hb1) _) _) hb (Nat.le_refl _)⟩
      · obtain rfl : n' = 0 := by omega
        have HKK : Hid ((n + 31) / 32 = K) := Lib.hid (by omega)
        have HTK : Hid (u8s (zs.take (K * 32)) = part zs n K) := Lib.hid (by
          rw [part, show K * 32 = n by omega, Nat.sub_self]; simp)
        have HO2 := HO
        rw [HTK.out] at HO2
        go_wp2_with fail
        rw [HKK.out]
        go_ret
        exact ⟨pl, cl, rfl, HO2.out.rd, hbr⟩
end Go.Proofs.Ytbahllmbfmdabaa.sec
