/- What the reference's Gather, and the laws' own helpers, give. -/
import Derived.Test.YtbahllmbfmdabaaSecRef
namespace Go.Proofs.Ytbahllmbfmdabaa.sec
open Go.ChangeShapes Go.WideShapes Go.ChangeAt Go.RowKit
open Go.Proofs.Ytbahllmbfmdabaa.rows
set_option linter.unusedVariables false

theorem unl_self (xs : List (List Int)) (j : Nat) : unl xs xs j = [] := by simp [unl]
/-- Same of two lists that hold the same -/
theorem same_any (p1 p2 : Option Addr) (n c1 c2 : Nat) (xs : List (List Int)) (w : World) (hx : Secs xs) (h1 : Rd w 32 (.slice p1 n c1) n (cellsOf xs)) (h2 : Rd w 32 (.slice p2 n c2) n (cellsOf xs)) (l1 : n ≤ 1000) :
    Calls Try.prog 8 #[.slice p1 n c1, .slice p2 n c2] w fun e w' => e = .returned (.bool true) ∧ Below w.heap.size w w' := by
  have HF := Lib.hid (runlike_any p1 p2 n c1 n c2 xs xs w hx hx h1 h2 l1 l1)
  have HU := Lib.hid (unl_self xs (max n n))
  clear h1 h2
  go_enter Try.func8, Try.ntmps8
  go_wp2_with (go_at_call 13; refine HF.out.mono ?_; rintro e w1 ⟨p', n', c', rfl, hn, ho, hb⟩; rw [HU.out] at hn; have hn0 : n' = 0 := hn; clear hn ho; subst hn0)
  go_ret
  exact ⟨rfl, hb⟩

theorem ints_any (p1 p2 : Option Addr) (n c1 c2 : Nat) (zs : List Int) (w : World) (h1 : Rd w 1 (.slice p1 n c1) n (i64s zs)) (h2 : Rd w 1 (.slice p2 n c2) n (i64s zs)) (l1 : n ≤ 1000) :
    Calls Try.prog 11 #[.slice p1 n c1, .slice p2 n c2] w fun e w' => e = .returned (.bool true) ∧ Below w.heap.size w w' := by
  have H1 := Lib.hid h1
  have H2 := Lib.hid h2
  have hb1 : (n:Int) ≤ 1000 := by omega
  clear h1 h2
  go_enter Try.func11, Try.ntmps11
  go_wp2
  go_loopw [5] (fun iv wr => ∃ (j : Nat), j ≤ n ∧ iv = .int .i64 (j : Int) ∧ Below w.heap.size w wr) (fun iv _ => n - (intOf iv).toNat)
  case atStart => exact ⟨0, by omega, rfl, Below.refl _ _⟩
  case round =>
    obtain ⟨j, hj, rfl, hbr⟩ := hrel
    by_cases ha : j < n
    · have ha1 : (j:Int) < n := by omega
      obtain ⟨b1, o1, rfl, hc1, hm1, hh1, hl1, HR1⟩ := (H1.out.later hbr).at ha
      obtain ⟨b2, o2, rfl, hc2, hm2, hh2, hl2, HR2⟩ := (H2.out.later hbr).at ha
      have hr1 := HR1 j ha
      have hr2 := HR2 j ha
      generalize zs.getD j 0 = x at *
      clear HR1 HR2 hl1 hl2
      go_wp2_with fail
      go_region
      go_wp2_with fail
      go_roundw
      case rel => exact ⟨j + 1, by omega, by go_num, hbr.drew⟩
      case measure => simp [intOf]; omega
    · have hjm : j = n := by omega
      go_wp2_with fail
      go_ret
      exact ⟨rfl, hbr⟩

theorem rgather_no (p : Option Addr) (n c : Nat) (k : Int) (w : World) (hk : (Lit.int .i64 k).wf = true) (h : k < 0 ∨ (0 ≤ k ∧ 32 * (n:Int) < k)) (l1 : n ≤ 1000) :
    Calls Try.prog 7 #[.slice p n c, .int .i64 k] w fun e w' => e = .returned (.tuple #[.slice none 0 0, .bool false]) ∧ w = w' := by
  have hx := wf_i64 hk
  have hb1 : (n:Int) ≤ 1000 := by omega
  rcases h with h | ⟨h, h2⟩
  · go_enter Try.func7, Try.ntmps7
    go_wp2
    go_ret2
    exact ⟨rfl, rfl⟩
  · go_enter Try.func7, Try.ntmps7
    go_wp2
    go_ret2
    exact ⟨rfl, rfl⟩
theorem flat_len {ss : List (List Int)} (h : Secs ss) : ss.flatten.length = ss.length * 32 := by
  have := cellsOf_len h
  unfold cellsOf u8s at this
  rw [List.length_map] at this
  exact this
theorem rgather_yes (p : Option Addr) (n c : Nat) (ss : List (List Int)) (k : Nat) (w : World) (hs : Secs ss) (h1 : Rd w 32 (.slice p n c) n (cellsOf ss)) (hk : k ≤ 32 * n) (l1 : n ≤ 1000) :
    Calls Try.prog 7 #[.slice p n c, .int .i64 (k : Int)] w fun e w' => ∃ p' c', e = .returned (.tuple #[.slice p' k c', .bool true]) ∧ Own w' w.heap.size 5 1 (.slice p' k c') k (u8s (ss.flatten.take k)) ∧ Below w.heap.size w w' := by
  have hlen := h1.cells
  rw [cellsOf_len hs] at hlen
  have HFL : Hid (ss.flatten.length = n * 32) := Lib.hid (by rw [flat_len hs]; exact hlen)
  have H1 := Lib.hid h1
  have hb1 : (n:Int) ≤ 1000 := by omega
  have hk2 : (k:Int) ≤ 32 * n := by omega
  have hk3 : decide (32 * (n:Int) < k) = false := by simp; omega
  have hk4 : ¬ (32 * (n:Int) < k) := by omega
  clear h1 hlen
  go_enter Try.func7, Try.ntmps7
  go_wp2
  go_loopw [6, 7] (fun out iv wr => ∃ (j : Nat) (p' : Option Addr) (c' : Nat), j ≤ k ∧ iv = .int .i64 (j : Int) ∧ out = .slice p' j c' ∧ Hid (Own wr w.heap.size 5 1 (.slice p' j c') j (u8s (ss.flatten.take j))) ∧ Below w.heap.size w wr) (fun _ iv _ => k - (intOf iv).toNat)
  case atStart => exact ⟨0, none, 0, by omega, rfl, rfl, Lib.hid (own_nil _ _ _ _), Below.refl _ _⟩
  case round =>
    obtain ⟨j, p', c', hj, rfl, rfl, HO, hbr⟩ := hrel
    by_cases ha : j < k
    · have ha1 : (j:Int) < k := by omega
      have hjf : j < ss.flatten.length := by rw [HFL.out]; omega
      have hcell : ∃ b off, p = some ⟨b, off, none⟩ ∧ wr.cell? ⟨b, off + j / 32 * 32 + j % 32, none⟩ = some (.int .u8 (ss.flatten[j])) := by
        rcases H1.out.later hbr with ⟨p', cap', h1, rfl, _⟩ | ⟨b, off, cap', h1, h2, h3, h4, h5, h6, h7⟩
        · omega
        · cases h1
          refine ⟨b, off, rfl, ?_⟩
          rw [Nat.add_assoc, show j / 32 * 32 + j % 32 = j by omega]
          exact h7 j _ (by unfold cellsOf u8s; rw [List.getElem?_map, List.getElem?_eq_getElem hjf]; rfl)
      obtain ⟨b, off, rfl, hc⟩ := hcell
      have HT : Hid (u8s (ss.flatten.take (j + 1)) = u8s (ss.flatten.take j) ++ [.int .u8 ss.flatten[j]]) := Lib.hid (by rw [List.take_succ_eq_append_getElem hjf]; unfold u8s; rw [List.map_append]; rfl)
      generalize ss.flatten[j] = x at *
      have hd1 : (j:Int) / 32 < n := by omega
      go_wp2_with (at_builtin; refine ap_rd elem_bytes rfl (.tmp 22) (.tmp 31) rfl w.heap.size _ _ (u8s (ss.flatten.take j)) rfl (HO.out.alloc _) _ 1 [.int .u8 x] rfl (rd_one _ _ 1 #[.int .u8 x] rfl) (one_ints .u8 [x]) (by omega) (by have := hbr.size; simp; omega) ?_; intro pa ca wa ho hb; have HO2 := Lib.hid ho; clear ho)
      go_roundw
      case rel => exact ⟨j + 1, pa, ca, by omega, by go_num, rfl, Lib.hid (by rw [HT.out]; exact HO2.out), below_trans' (below_alloc hbr _) hb (Nat.le_refl _)⟩
      case measure => simp [intOf]; omega
    · have hjm : j = k := by omega
      subst hjm
      go_wp2_with fail
      go_ret2
      exact ⟨p', c', rfl, HO.out, hbr⟩
end Go.Proofs.Ytbahllmbfmdabaa.sec
